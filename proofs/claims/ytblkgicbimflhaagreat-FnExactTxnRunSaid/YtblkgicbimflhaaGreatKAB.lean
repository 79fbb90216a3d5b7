import Derived.Test.YtblkgicbimflhaaGreatKAA
import Derived.Deep.RegionLawGrows
namespace Go.Proofs.YtblkgicbimflhaaGreat
open Go.ChangeShapes Go.WideShapes Go.ChangeAt Go.RowKit
set_option linter.unusedVariables false
set_option linter.unusedSimpArgs false
set_option maxRecDepth 100000
open List (setIfInBounds_toArray set_cons_zero set_cons_succ)
def clashC (bg : Int) (own : List Cel) (c : Com) : Bool := decide (bg < c.st) && own.any (fun x => (newC c.cs x.tb x.ky).isSome)
def conflictF (cms : List Com) (bg : Int) (own : List Cel) : Bool := cms.any (clashC bg own)
theorem com_at {w : World} {a : Option Addr} {n c : Nat} {us : List Com} (h : RS 2 CCm 0 w (.slice a n c) us) (hp : 0 < us.length) : ∃ g o, a = some ⟨g, o, none⟩ ∧ g < w.heap.size ∧ ∀ j (hj : j < us.length), ∃ ea ec, w.cell? ⟨g, o + j * 2, none⟩ = some (.int .i64 us[j].st) ∧ w.cell? ⟨g, o + j * 2 + 1, none⟩ = some (.slice ea us[j].cs.length ec) ∧ RS 4 CC 0 w (.slice ea us[j].cs.length ec) us[j].cs := by
 obtain ⟨a', c', he, hh⟩ := h
 obtain ⟨g, o, e2, h1, h2, h3⟩ := hh hp
 simp only [Value.slice.injEq] at he
 refine ⟨g, o, he.1.trans e2, h2, fun j hj => ?_⟩
 obtain ⟨cs, hc, hcell⟩ := h3 j hj
 obtain ⟨cv, rfl, hr⟩ := hc
 obtain ⟨ea, ec, he3, hr3⟩ := id hr
 subst he3
 exact ⟨ea, ec, hcell 0 (by omega), hcell 1 (by omega), hr⟩
theorem any_take {α : Type} {xs : List α} {p : α → Bool} {k : Nat} (hlt : k < xs.length) (h : ∀ x ∈ xs.take k, p x = false) (z : p xs[k] = false) : ∀ x ∈ xs.take (k + 1), p x = false := fun t ht => by
 rw [show xs.take (k + 1) = xs.take k ++ [xs[k]] by rw [List.take_add_one, List.getElem?_eq_getElem hlt]; rfl] at ht
 rcases List.mem_append.1 ht with h' | h'
 ·exact h t h'
 ·rw [List.mem_singleton] at h'; rw [h']; exact z
theorem any_false {α : Type} {xs : List α} {p : α → Bool} (h : ∀ x ∈ xs, p x = false) : xs.any p = false := by
 rw [List.any_eq_false]; exact fun x hx => by rw [h x hx]; simp
theorem any_true {α : Type} {xs : List α} {p : α → Bool} {k : Nat} (hlt : k < xs.length) (h : p xs[k] = true) : xs.any p = true := by
 rw [List.any_eq_true]; exact ⟨_, List.getElem_mem hlt, h⟩
set_option maxHeartbeats 8000000 in
theorem conflict_spec (bb : Nat) (ck : Int) (ma : Option Addr) (mc : Nat) (hv tv rv sv : Value) (op : Bool) (md bg : Int) (oa : Option Addr) (oc : Nat) (cms : List Com) (own : List Cel) (w : World) (hm : BM cms) (ho : own.length ≤ 1048576) (hbb : bb < w.heap.size)
 (hB : Blk w bb [.int .i64 ck, .slice ma cms.length mc, hv, tv]) (hms : RS 2 CCm 0 w (.slice ma cms.length mc) cms) (hown : RS 4 CC 0 w (.slice oa own.length oc) own) :
 Calls Tryz.prog 59 #[.pointer (some ⟨bb, 0, none⟩), .agg #[.bool op, .int .i64 md, .int .i64 bg, .slice oa own.length oc, rv, sv]] w fun e w' => e = .returned (.bool (conflictF cms bg own)) ∧ Below w.heap.size w w' := by
 have bw := below_alloc w (.cells #[.bool op, .int .i64 md, .int .i64 bg, .slice oa own.length oc, rv, sv] 70)
 have K5 := hid (blk_new w [.bool op, .int .i64 md, .int .i64 bg, .slice oa own.length oc, rv, sv] 70)
 have hz5 : w.heap.size < (w.alloc (.cells #[.bool op, .int .i64 md, .int .i64 bg, .slice oa own.length oc, rv, sv] 70)).heap.size := by simp
 have b1 : w.cell? ⟨bb, 1, none⟩ = some (.slice ma cms.length mc) := (hB 1 (by simp)).1
 have HMS := hid hms
 have HOW := hid hown
 have hml := hm.1
 have HMC := hid hm.2
 clear hown hB hms hm
 go_enter Tryz.func59, Tryz.ntmps59
 go_wp2
 clear b1
 go_loopw [16] (fun iv wr => ∃ k : Nat, k ≤ cms.length ∧ iv = .int .i64 k ∧ Hid (∀ x ∈ cms.take k, clashC bg own x = false) ∧ Hid (Blk wr w.heap.size [.bool op, .int .i64 md, .int .i64 bg, .slice oa own.length oc, rv, sv]) ∧ w.heap.size < wr.heap.size ∧ Below w.heap.size w wr) (fun iv _ => cms.length - (intOf iv).toNat)
 case atStart => exact ⟨0, Nat.zero_le _, rfl, (fun x h => by simp at h : ∀ x ∈ cms.take 0, clashC bg own x = false), K5, hz5, bw⟩
 case round =>
  clear K5 hz5 bw
  obtain ⟨k, hk, rfl, HO, K5, hzt, hbel⟩ := hrel
  have hbs := hbel.size
  by_cases hlt : k < cms.length
  ·have hlti : (k : Int) < cms.length := by omega
   obtain ⟨g, o, rfl, hg, hgc⟩ := com_at HMS.out (by omega)
   obtain ⟨ea, ec, c0, c1, hrc⟩ := hgc k hlt
   have HST := hid (fun z => any_take hlt HO.out z)
   have HYes := hid (fun z => any_true (p := clashC bg own) hlt z)
   have HLC := hid (HMC.out cms[k] (List.getElem_mem hlt))
   have HRC := hid hrc
   clear hgc hrc HO
   generalize cms[k] = m at c0 c1 HST HYes HLC HRC
   replace c0 := (hbel.cell (p := ⟨g, o + k * 2, none⟩) hg).trans c0
   replace c1 := (hbel.cell (p := ⟨g, o + k * 2 + 1, none⟩) hg).trans c1
   have t2 : wr.cell? ⟨w.heap.size, 2, none⟩ = some (.int .i64 bg) := (K5.out 2 (by simp)).1
   have t3 : wr.cell? ⟨w.heap.size, 3, none⟩ = some (.slice oa own.length oc) := (K5.out 3 (by simp)).1
   have bwA : Below w.heap.size w (wr.alloc (.cells #[.int .i64 m.st, .slice ea m.cs.length ec] 140)) := hbel.alloc hbs _
   have K5A := hid (K5.out.below (below_alloc wr (.cells #[.int .i64 m.st, .slice ea m.cs.length ec] 140)) hzt)
   have K6A := hid (blk_new wr [.int .i64 m.st, .slice ea m.cs.length ec] 140)
   have hztA : w.heap.size < (wr.alloc (.cells #[.int .i64 m.st, .slice ea m.cs.length ec] 140)).heap.size := by simp; omega
   have hzcA : wr.heap.size < (wr.alloc (.cells #[.int .i64 m.st, .slice ea m.cs.length ec] 140)).heap.size := by simp
   by_cases h1 : m.st ≤ bg
   ·have HV := hid (HST.out (by unfold clashC; rw [decide_eq_false (by omega)]; rfl))
    clear HST HYes HRC
    go_wp2
    go_roundw
    case rel => exact ⟨k + 1, by omega, by go_num, HV, K5A, hztA, bwA⟩
    case measure => simp [intOf]; omega
   ·have HN := hid (HST.out)
    have HCL : Hid (clashC bg own m = own.any (fun x => (newC m.cs x.tb x.ky).isSome)) := hid (by unfold clashC; rw [decide_eq_true (show bg < m.st by omega)]; rfl)
    clear HN
    go_wp2
    obtain ⟨gc, hgc⟩ : ∃ x, x = wr.heap.size := ⟨_, rfl⟩
    rw [← hgc] at K6A hzcA
    rw [← hgc]
    go_loopw [28] (fun jv wx => ∃ l : Nat, l ≤ own.length ∧ jv = .int .i64 l ∧ Hid (∀ x ∈ own.take l, (newC m.cs x.tb x.ky).isSome = false) ∧ Hid (Blk wx w.heap.size [.bool op, .int .i64 md, .int .i64 bg, .slice oa own.length oc, rv, sv]) ∧ Hid (Blk wx gc [.int .i64 m.st, .slice ea m.cs.length ec]) ∧ w.heap.size < wx.heap.size ∧ gc < wx.heap.size ∧ Below w.heap.size w wx) (fun jv _ => own.length - (intOf jv).toNat)
    case atStart => exact ⟨0, Nat.zero_le _, rfl, (fun x h => by simp at h : ∀ x ∈ own.take 0, (newC m.cs x.tb x.ky).isSome = false), K5A, K6A, hztA, hzcA, bwA⟩
    case round =>
     clear K5A K6A hztA hzcA bwA hbel hbs K5 c0 c1 t2 t3 hgc hzt
     obtain ⟨l, hl, rfl, HP, K5, K6, hzt, hzc, hbel⟩ := hrel
     have hbs := hbel.size
     by_cases hlt2 : l < own.length
     ·have hlti2 : (l : Int) < own.length := by omega
      obtain ⟨og, oo, rfl, _, hog, hoc⟩ := cel_at HOW.out (by omega)
      obtain ⟨d0, d1, d2, d3⟩ := hoc l hlt2
      have HST2 := hid (fun z => any_take (p := fun x => (newC m.cs x.tb x.ky).isSome) hlt2 HP.out z)
      have HYes2 := hid (fun z => any_true (p := fun x => (newC m.cs x.tb x.ky).isSome) hlt2 z)
      clear hoc HP
      generalize own[l] = x at d0 d1 d2 d3 HST2 HYes2
      obtain ⟨xt, xk, xv, xg⟩ := x
      simp only at d0 d1 d2 d3 HST2 HYes2
      replace d0 := (hbel.cell (p := ⟨og, oo + l * 4, none⟩) hog).trans d0
      replace d1 := (hbel.cell (p := ⟨og, oo + l * 4 + 1, none⟩) hog).trans d1
      replace d2 := (hbel.cell (p := ⟨og, oo + l * 4 + 2, none⟩) hog).trans d2
      replace d3 := (hbel.cell (p := ⟨og, oo + l * 4 + 3, none⟩) hog).trans d3
      have hogw : og < wr.heap.size := by omega
      have e1 : wr.cell? ⟨gc, 1, none⟩ = some (.slice ea m.cs.length ec) := (K6.out 1 (by simp)).1
      have bwA : Below w.heap.size w (wr.alloc (.cells #[.int .i64 xt, .int .i64 xk, .int .i64 xv, .bool xg] 106)) := hbel.alloc hbs _
      have hq := newest_spec ea ec m.cs xt xk (wr.alloc (.cells #[.int .i64 xt, .int .i64 xk, .int .i64 xv, .bool xg] 106)) HLC.out (HRC.out.below liesC bwA)
      replace K5 := hid (K5.out.below (below_alloc wr (.cells #[.int .i64 xt, .int .i64 xk, .int .i64 xv, .bool xg] 106)) hzt)
      replace K6 := hid (K6.out.below (below_alloc wr (.cells #[.int .i64 xt, .int .i64 xk, .int .i64 xv, .bool xg] 106)) hzc)
      have hztA : w.heap.size < (wr.alloc (.cells #[.int .i64 xt, .int .i64 xk, .int .i64 xv, .bool xg] 106)).heap.size := by simp; omega
      have hzcA : gc < (wr.alloc (.cells #[.int .i64 xt, .int .i64 xk, .int .i64 xv, .bool xg] 106)).heap.size := by simp; omega
      go_wp2_with (go_at_call 57; fail)
      refine hq.mono ?_
      rintro e w3 ⟨rfl, hb3⟩
      replace K5 := hid (K5.out.below hb3 hztA)
      replace K6 := hid (K6.out.below hb3 hzcA)
      have bw3 : Below w.heap.size w w3 := bwA.trans (hb3.mono bwA.size)
      have hz3 : w.heap.size < w3.heap.size := Nat.lt_of_lt_of_le hztA hb3.size
      have hc3 : gc < w3.heap.size := Nat.lt_of_lt_of_le hzcA hb3.size
      clear hq hb3 d0 d1 d2 d3 e1 hbel hbs bwA hztA hzcA
      cases hnm : newC m.cs xt xk with
      | some c =>
        have HF : Hid (conflictF cms bg own = true) := hid (HYes.out (by rw [HCL.out]; exact HYes2.out (by rw [hnm]; rfl)))
        obtain ⟨ct, ckk, cv, cg⟩ := c
        simp only [celA, Option.isSome]
        clear hnm HST HYes HST2 HYes2 HRC HCL
        have bw4 := bw3.alloc bw3.size (.cells #[.int .i64 ct, .int .i64 ckk, .int .i64 cv, .bool cg] 106)
        go_wp2
        go_ret
        exact ⟨by rw [HF.out]; rfl, bw4⟩
      | none =>
        have HV := hid (HST2.out (by rw [hnm]; rfl))
        simp only [celA, Option.isSome]
        clear hnm HST2 HYes2
        have bw4 := bw3.alloc bw3.size (.cells #[.int .i64 0, .int .i64 0, .int .i64 0, .bool false] 106)
        have K5C := hid (K5.out.below (below_alloc w3 (.cells #[.int .i64 0, .int .i64 0, .int .i64 0, .bool false] 106)) hz3)
        have K6C := hid (K6.out.below (below_alloc w3 (.cells #[.int .i64 0, .int .i64 0, .int .i64 0, .bool false] 106)) hc3)
        have hz4 : w.heap.size < (w3.alloc (.cells #[.int .i64 0, .int .i64 0, .int .i64 0, .bool false] 106)).heap.size := by simp; omega
        have hc4 : gc < (w3.alloc (.cells #[.int .i64 0, .int .i64 0, .int .i64 0, .bool false] 106)).heap.size := by simp; omega
        clear K5 K6
        go_wp2
        go_roundw
        case rel => exact ⟨l + 1, by omega, by go_num, HV, K5C, K6C, hz4, hc4, bw4⟩
        case measure => simp [intOf]; omega
     ·have hln : l = own.length := by omega
      subst hln
      have hlti2 : ¬ (own.length : Int) < own.length := by omega
      have HV := hid (HST.out (by rw [HCL.out]; exact any_false (by simpa using HP.out)))
      clear HST HYes HP K6
      go_wp2
      go_roundw
      case rel => exact ⟨k + 1, by omega, by go_num, HV, K5, hzt, hbel⟩
      case measure => simp [intOf]; omega
  ·have hkn : k = cms.length := by omega
   subst hkn
   have hlti : ¬ (cms.length : Int) < cms.length := by omega
   have HF : Hid (conflictF cms bg own = false) := hid (any_false (by simpa using HO.out))
   clear HO
   go_wp2
   go_ret
   exact ⟨by rw [HF.out]; rfl, hbel⟩
theorem list_of {α : Type} (P : Nat → α → Prop) : ∀ n, (∀ i, i < n → ∃ x, P i x) → ∃ l : List α, l.length = n ∧ ∀ i (h : i < l.length), P i l[i]
 | 0, _ => ⟨[], rfl, fun i h => absurd h (Nat.not_lt_zero _)⟩
 | n + 1, hp => by
   obtain ⟨l, hl, hq⟩ := list_of P n (fun i hi => hp i (by omega))
   obtain ⟨x, hx⟩ := hp n (by omega)
   refine ⟨l ++ [x], by simp [hl], fun i h => ?_⟩
   by_cases e : i < l.length
   ·rw [List.getElem_append_left e]; exact hq i e
   ·have : i = l.length := by simp at h; omega
    subst this
    simp
    rw [hl]; exact hx
theorem RS.flat {α : Type} {k : Nat} {C : Nat → World → List Value → α → Prop} (hC : Lies k C) {B g o cap : Nat} {w : World} {us : List α} (h : RS k C B w (.slice (some ⟨g, o, none⟩) us.length cap) us) : ∃ news, Fill k C B us us.length news w ∧ ∀ j u, news[j]? = some u → w.cell? ⟨g, o + j, none⟩ = some u := by
 obtain ⟨a, c, he, hc⟩ := h
 simp only [Value.slice.injEq] at he
 obtain ⟨rfl, _, rfl⟩ := he
 have key : ∀ i, i < us.length * k → ∃ x, w.cell? ⟨g, o + i, none⟩ = some x := fun i hi => by
  have hk : 0 < k := by
   rcases Nat.eq_zero_or_pos k with h0 | h0
   ·rw [h0, Nat.mul_zero] at hi; omega
   ·exact h0
  have hq : i / k < us.length := Nat.div_lt_of_lt_mul (by rw [Nat.mul_comm]; exact hi)
  obtain ⟨g', o', ha, _, _, hcc⟩ := hc (Nat.lt_of_le_of_lt (Nat.zero_le _) hq)
  cases ha
  obtain ⟨cs, hcs, hcell⟩ := hcc _ hq
  have hm : i % k < k := Nat.mod_lt _ hk
  have := hcell (i % k) hm
  rw [show o + i / k * k + i % k = o + i by have := Nat.div_add_mod' i k; omega, List.getElem?_eq_getElem (by rw [hC.len hcs]; exact hm)] at this
  exact ⟨_, this⟩
 obtain ⟨news, hl, hn⟩ := list_of _ _ key
 refine ⟨news, ⟨hl, fun i hi _ => ?_⟩, fun j u hj => ?_⟩
 ·obtain ⟨g', o', ha, _, _, hcc⟩ := hc (by omega)
  cases ha
  obtain ⟨cs, hcs, hcell⟩ := hcc i hi
  refine ⟨cs, hcs, fun j hj => ?_⟩
  have hlt : i * k + j < news.length := by rw [hl]; have := mul_le (K := k) hi; omega
  rw [← hcell j hj, show o + i * k + j = o + (i * k + j) by omega, hn _ hlt, List.getElem?_eq_getElem hlt]
 ·obtain ⟨hlt, rfl⟩ := List.getElem?_eq_some_iff.1 hj
  exact hn j hlt
theorem Fill.below {α : Type} {K : Nat} {C : Nat → World → List Value → α → Prop} (hC : Lies K C) {B k : Nat} {us : List α} {xs : List Value} {w w' : World} (h : Fill K C B us k xs w) (hb : Below w.heap.size w w') : Fill K C B us k xs w' :=
 ⟨h.1, fun i hi hik => let ⟨cs, a, b⟩ := h.2 i hi hik; ⟨cs, hC.below a hb, b⟩⟩
theorem fill_nil {α : Type} (K : Nat) (C : Nat → World → List Value → α → Prop) (B : Nat) (w : World) : Fill K C B ([] : List α) 0 [] w := ⟨by simp, fun i h => absurd h (Nat.not_lt_zero _)⟩
theorem Fill.append {α : Type} {K : Nat} {C : Nat → World → List Value → α → Prop} {B : Nat} {us vs : List α} {xs ys : List Value} {w : World} (h : Fill K C B us us.length xs w) (g : Fill K C B vs vs.length ys w) : Fill K C B (us ++ vs) (us ++ vs).length (xs ++ ys) w := by
 refine ⟨by rw [List.length_append, h.1, g.1, List.length_append, Nat.add_mul], fun i hi _ => ?_⟩
 by_cases e : i < us.length
 ·obtain ⟨cs, a, b⟩ := h.2 i e e
  refine ⟨cs, by rw [List.getElem_append_left e]; exact a, fun j hj => ?_⟩
  rw [List.getElem?_append_left (by rw [h.1]; have := mul_le (K := K) e; omega)]
  exact b j hj
 ·have hi' : i - us.length < vs.length := by rw [List.length_append] at hi; omega
  obtain ⟨cs, a, b⟩ := g.2 _ hi' hi'
  refine ⟨cs, by rw [List.getElem_append_right (by omega)]; exact a, fun j hj => ?_⟩
  have hge : us.length * K ≤ i * K := Nat.mul_le_mul_right K (by omega)
  rw [List.getElem?_append_right (by rw [h.1]; omega), h.1, show i * K + j - us.length * K = (i - us.length) * K + j by rw [Nat.sub_mul]; omega]
  exact b j hj
theorem fill_one {α : Type} {K : Nat} {C : Nat → World → List Value → α → Prop} (hC : Lies K C) {B : Nat} {t : α} {cs : List Value} {w : World} (h : C B w cs t) : Fill K C B [t] 1 cs w :=
 ⟨by rw [hC.len h]; simp, fun i hi _ => by
  have : i = 0 := by simp at hi; omega
  subst this
  exact ⟨cs, h, fun j hj => by simp⟩⟩
theorem Fill.own {α : Type} {K : Nat} {C : Nat → World → List Value → α → Prop} (hC : Lies K C) {B D e : Nat} {us : List α} {xs : List Value} {v : Value} {w : World} (h : Fill K C B us us.length xs w) (ho : w.ownsRow D e K v us.length xs) (hB : D ≤ B) : RS K C D w v us := by
 obtain ⟨hl, h2⟩ := ho
 rcases h2 with ⟨rfl, h0⟩ | ⟨g, cap, cur, rfl, hg1, hg2, hg3⟩
 ·exact ⟨none, 0, by rw [h0], fun hp => by omega⟩
 ·have ho : w.ownsRow D e K (.slice (some ⟨g, 0, none⟩) us.length cap) us.length xs := ⟨hl, .inr ⟨g, cap, cur, rfl, hg1, hg2, hg3⟩⟩
  refine ⟨_, _, rfl, fun _ => ⟨g, 0, rfl, hg1, (ho.lt _ rfl).2, fun i hi => ?_⟩⟩
  obtain ⟨cs, a, b⟩ := h.2 i hi hi
  refine ⟨cs, hC.mono a hB, fun j hj => ?_⟩
  rw [Nat.zero_add, ← b j hj]
  have hx : i * K + j < xs.length := by rw [h.1]; have := mul_le (K := K) hi; omega
  rw [List.getElem?_eq_getElem hx]
  exact own_cell ho (List.getElem?_eq_getElem hx)
theorem Fill.one {α : Type} {K : Nat} {C : Nat → World → List Value → α → Prop} (h1 : ∀ {B w cs x}, C B w cs x → ∀ u ∈ cs, u.oneCell' = true) (hC : Lies K C) {B : Nat} {us : List α} {xs : List Value} {w : World} (h : Fill K C B us us.length xs w) : ∀ u ∈ xs, u.oneCell' = true := fun u hu => by
 obtain ⟨i, hi, rfl⟩ := List.getElem_of_mem hu
 have hk : 0 < K := by
  rcases Nat.eq_zero_or_pos K with h0 | h0
  ·have := h.1; rw [h0, Nat.mul_zero] at this; omega
  ·exact h0
 have hq : i / K < us.length := Nat.div_lt_of_lt_mul (by rw [Nat.mul_comm, ← h.1]; exact hi)
 obtain ⟨cs, a, b⟩ := h.2 _ hq hq
 have hm : i % K < K := Nat.mod_lt _ hk
 have := b _ hm
 rw [show i / K * K + i % K = i from Nat.div_add_mod' i K, List.getElem?_eq_getElem hi, List.getElem?_eq_getElem (by rw [hC.len a]; exact hm)] at this
 rw [Option.some.inj this]
 exact h1 a _ (List.getElem_mem _)
theorem oneI : ∀ {B : Nat} {w : World} {cs : List Value} {x : Int}, CI B w cs x → ∀ u ∈ cs, u.oneCell' = true := fun h u hu => by
 unfold CI at h; subst h; simp at hu; subst hu; rfl
theorem Blk.grown {w w' : World} {b : Nat} {cs : List Value} {row : Option Nat} (h : Blk w b cs) (hg : w.grownBy w' row) (hb : b < w.heap.size) (hr : some b ≠ row) : Blk w' b cs := fun j hj => by
 have e : w'.heap[(⟨b, j, none⟩ : Addr).block]? = w.heap[(⟨b, j, none⟩ : Addr).block]? := hg.block b hb hr
 exact ⟨(World.cell?_of_block e).trans (h j hj).1, (World.frozen?_of_block e).trans (h j hj).2⟩
theorem Blk.cells {w : World} {b : Nat} {cs : List Value} (h : Blk w b cs) : ∀ j u, cs[j]? = some u → w.cell? ((⟨b, 0, none⟩ : Addr).add j) = some u := fun j u hj => by
 obtain ⟨hlt, rfl⟩ := List.getElem?_eq_some_iff.1 hj
 rw [Addr.add_lit, Nat.zero_add, (h j hlt).1]
 exact List.getElem?_eq_getElem hlt
theorem step_append_own {P : Program} {ops : Array Oper} {o : Oper} {a : Act} {w : World} {K : Act → World → Prop} {Q : Exit → Act → World → Prop} {E : Prop}
 (hg : o.guard = none) (s x : Operand) (t : TypeId) (hop : o.op = Op.call { callee := Callee.builtin Builtin.append, args := #[s, x], argTypes := #[t, t] })
 (base : Nat) (e : TypeId) (i : TypeInfo) (z : Value) (size bytes : Nat) (h1 : P.underlying t = some (.slice e)) (h2 : P.info? e = some i) (h3 : i.zero = some z) (h4 : i.size = size) (h5 : i.bytes = bytes) (h6 : z.cells.size = size) (h7 : 0 < size)
 (v : Value) (n : Nat) (xs : List Value) (hs : a.eval s = v) (hown : w.ownsRow base e size v n xs)
 (ad : Addr) (m c : Nat) (news : List Value) (hx : a.eval x = .slice (some ad) m c) (hn : news.length = m * size) (hc : ∀ j u, news[j]? = some u → w.cell? (ad.add j) = some u) (h1c : ∀ u ∈ news, u.oneCell' = true)
 (b1 : n + m ≤ maxLen) (b2 : (n + m) * bytes ≤ 140737488355328) (hbase : base ≤ w.heap.size)
 (hK : ∀ v' w', w'.ownsRow base e size v' (n + m) (xs ++ news) → w.grownBy w' v.ownBlock → (v' = .slice none 0 0 ↔ v = .slice none 0 0 ∧ m = 0) → K (a.put o.dst v') w') :
 if Region.wanted o (yielded ops a.tmps) = true then Oper.wp P o a w K Q else E := by
 have hw : Region.wanted o (yielded ops a.tmps) = true := by simp [Region.wanted, hg]
 rw [if_pos hw]
 obtain ⟨v', w', hrun, r1, r2, r3⟩ := run_append_own (P := P) w base t o.type e i z size bytes h1 h2 h3 h4 h5 h6 h7 v n xs hown ad m c news hn hc h1c b1 b2 hbase
 unfold Oper.wp
 simp [execOp, hop, resolve, invoke, builtin, hs, hx, hrun, Result.andThen]
 exact hK v' w' r1 r2 r3
def tabsT (p : Nat → Bool) (k : Nat) : List Int := ((List.range k).filter p).map Int.ofNat
theorem tabsT_yes {p : Nat → Bool} {k : Nat} (h : p k = true) : tabsT p (k + 1) = tabsT p k ++ [(k : Int)] := by
 unfold tabsT; rw [List.range_succ, List.filter_append, List.map_append]; simp [h]
theorem tabsT_no {p : Nat → Bool} {k : Nat} (h : p k = false) : tabsT p (k + 1) = tabsT p k := by
 unfold tabsT; rw [List.range_succ, List.filter_append, List.map_append]; simp [h]
theorem tabsT_len (p : Nat → Bool) (k : Nat) : (tabsT p k).length ≤ k := by
 unfold tabsT; rw [List.length_map]; exact Nat.le_trans (List.length_filter_le _ _) (by simp)
def readAt (rs : List Bool) (k : Nat) : Bool := rs.getD k false
def wroteAt (own : List Cel) (k : Nat) : Bool := own.any (fun c => c.tb == (k : Int))
def infoF (bg st : Int) (own : List Cel) (rs : List Bool) : TI := ⟨bg, st, tabsT (readAt rs) 32, tabsT (wroteAt own) 32⟩
def IGr (b : Nat) (w : World) (v : Value) (xs : List Int) : Prop := w.ownsRow b 3 1 v xs.length (xs.map (Value.int .i64))
theorem IGr.nil (b : Nat) (w : World) : IGr b w (.slice none 0 0) [] := World.ownsRow_nil _ _ _ _
theorem IGr.below {b : Nat} {w w' : World} {v : Value} {xs : List Int} (h : IGr b w v xs) (hb : Below w.heap.size w w') : IGr b w' v xs := own_below h hb
theorem IGr.form {b : Nat} {w : World} {v : Value} {xs : List Int} (h : IGr b w v xs) : ∃ a c, v = .slice a xs.length c := by
 obtain ⟨_, h2⟩ := h
 rcases h2 with ⟨rfl, h0⟩ | ⟨q, cap, cur, rfl, _⟩
 ·exact ⟨none, 0, by rw [h0]⟩
 ·exact ⟨_, _, rfl⟩
theorem IGr.rs {b : Nat} {w : World} {v : Value} {xs : List Int} (h : IGr b w v xs) : RS 1 CI b w v xs := by
 have hf : Fill 1 CI b xs xs.length (xs.map (Value.int .i64)) w := ⟨by simp, fun i hi _ => ⟨[.int .i64 xs[i]], rfl, fun j hj => by
  have : j = 0 := by omega
  subst this
  simp [hi]⟩⟩
 exact hf.own liesI h (Nat.le_refl _)
theorem IGr.lt {b g : Nat} {w : World} {v : Value} {xs : List Int} (h : IGr b w v xs) (hg : v.ownBlock = some g) : b ≤ g ∧ g < w.heap.size := World.ownsRow.lt h g hg
end Go.Proofs.YtblkgicbimflhaaGreat
