import Derived.Test.YtjfgojlnpbehfaaHD0
import Derived.Test.YtjfgojlnpbehfaaDD
namespace Go.Proofs.Ytjfgojlnpbehfaa
open Go.ChangeShapes Go.WideShapes Go.ChangeAt Go.RowKit
set_option linter.unusedVariables false
set_option linter.unusedSimpArgs false
set_option maxRecDepth 100000
theorem infoTI : (Try.prog.info? 31).map (fun i => (i.zero, i.size, i.bytes)) = some (some (.agg #[.int .i64 0, .int .i64 0, .slice none 0 0, .slice none 0 0]), 4, 64) := by kernel_rfl
def tC (x : Value × Value × TI) : List Value := [.int .i64 x.2.2.bgn, .int .i64 x.2.2.com, x.1, x.2.1]
def nestV (ts : List (Value × Value × TI)) : List Value := ts.flatMap (fun x => [x.1, x.2.1])
def Apart (a c : Value) : Prop := ∀ j, a.ownBlock = some j → c.ownBlock ≠ some j
/-- A history in a row that is owned, with its lists; no two of them share memory. -/
structure Hst (b : Nat) (w : World) (v : Value) (ts : List (Value × Value × TI)) : Prop where
  row : w.ownsRow b 31 4 v ts.length (ts.flatMap tC)
  nest : ∀ x ∈ ts, IOw b w x.1 x.2.2.reads ∧ IOw b w x.2.1 x.2.2.writes
  dis : (nestV ts).Pairwise Apart
theorem Hst.form {b : Nat} {w : World} {v : Value} {ts : List (Value × Value × TI)} (h : Hst b w v ts) : ∃ oa oc, v = .slice oa ts.length oc := by
  rcases h.row.2 with ⟨rfl, h0⟩ | ⟨g, cap, cur, rfl, _⟩
  · exact ⟨none, 0, by rw [h0]⟩
  · exact ⟨_, _, rfl⟩
theorem Hst.same {b : Nat} {w w' : World} {v : Value} {ts : List (Value × Value × TI)} (h : Hst b w v ts) (hs : ∀ j, b ≤ j → j < w.heap.size → w'.heap[j]? = w.heap[j]?) : Hst b w' v ts :=
  ⟨own_same h.row (fun j hj => hs j (h.row.lt j hj).1 (h.row.lt j hj).2), fun x hx => ⟨own_same (h.nest x hx).1 (fun j hj => hs j (World.ownsRow.lt (h.nest x hx).1 j hj).1 (World.ownsRow.lt (h.nest x hx).1 j hj).2), own_same (h.nest x hx).2 (fun j hj => hs j (World.ownsRow.lt (h.nest x hx).2 j hj).1 (World.ownsRow.lt (h.nest x hx).2 j hj).2)⟩, h.dis⟩
theorem Hst.upd {b c : Nat} {w w' : World} {v : Value} {ts : List (Value × Value × TI)} (h : Hst b w v ts) (u : Upd c w w') (hc : c < b) : Hst b w' v ts := h.same (fun j hj hl => u.block j hl (by omega))
theorem Hst.below {b : Nat} {w w' : World} {v : Value} {ts : List (Value × Value × TI)} (h : Hst b w v ts) (hb : Below w.heap.size w w') : Hst b w' v ts := h.same (fun j _ hl => hb.block j hl)
theorem nest_lt {b : Nat} {w : World} {v : Value} {ts : List (Value × Value × TI)} (h : Hst b w v ts) {u : Value} (hu : u ∈ nestV ts) {j : Nat} (hj : u.ownBlock = some j) : j < w.heap.size := by
  unfold nestV at hu
  obtain ⟨x, hx, hm⟩ := List.mem_flatMap.1 hu
  simp at hm
  rcases hm with rfl | rfl
  · exact (World.ownsRow.lt (h.nest x hx).1 j hj).2
  · exact (World.ownsRow.lt (h.nest x hx).2 j hj).2
theorem Hst.made {b : Nat} (w : World) (hb : b ≤ w.heap.size) : Hst b (w.alloc (.cells #[] 31)) (.slice (some ⟨w.heap.size, 0, none⟩) 0 0) [] := ⟨World.ownsRow_made w #[] 0 hb (by unfold maxLen; omega) (by simp), fun x hx => (by cases hx), List.Pairwise.nil⟩
/-- One transaction more, its lists anew. -/
theorem Hst.push {b : Nat} {w w' : World} {v v' : Value} {ts : List (Value × Value × TI)} {x : Value × Value × TI} (h : Hst b w v ts) (h1 : IOw b w x.1 x.2.2.reads) (h2 : IOw b w x.2.1 x.2.2.writes) (hn1 : ∀ u ∈ nestV ts, Apart u x.1) (hn2 : ∀ u ∈ nestV ts, Apart u x.2.1) (h12 : Apart x.1 x.2.1) (hg : w.grownBy w' v.ownBlock) (ho : w'.ownsRow b 31 4 v' (ts.length + 1) (ts.flatMap tC ++ tC x)) : Hst b w' v' (ts ++ [x]) := by
  have keep : ∀ {u : Value} {xs : List Int}, IOw b w u xs → IOw b w' u xs := fun {u xs} hI => own_same hI (fun j hj => hg.block j (World.ownsRow.lt hI j hj).2 (fun e => own_ne hI h.row (by decide) hj e.symm))
  refine ⟨by rw [List.flatMap_append, List.length_append]; simpa using ho, fun y hy => ?_, ?_⟩
  · rcases List.mem_append.1 hy with hy | hy
    · exact ⟨keep (h.nest y hy).1, keep (h.nest y hy).2⟩
    · rw [List.mem_singleton.1 hy]
      exact ⟨keep h1, keep h2⟩
  · unfold nestV
    rw [List.flatMap_append, List.pairwise_append]
    refine ⟨h.dis, by simp; exact h12, fun a ha c hc => ?_⟩
    simp at hc
    rcases hc with rfl | rfl
    · exact hn1 a ha
    · exact hn2 a ha
structure DrH (c : Nat) (w W : World) (A : Int) (v : Value) (ts : List (Value × Value × TI)) : Prop where
  cur : IsCur W c A
  hst : Hst w.heap.size W v ts
  upd : Upd c w W
theorem DrH.step {c : Nat} {w W W' : World} {A B : Int} {v : Value} {ts : List (Value × Value × TI)} (h : DrH c w W A v ts) (hc : c < w.heap.size) (u : Upd c W W') (hi : IsCur W' c B) : DrH c w W' B v ts := ⟨hi, h.hst.upd u hc, h.upd.trans u⟩
theorem DrH.mono {c : Nat} {w W : World} {A B : Int} {v : Value} {ts : List (Value × Value × TI)} (h : DrH c w W A v ts) (hAB : A ≤ B) : DrH c w W B v ts := ⟨h.cur.mono hAB, h.hst, h.upd⟩
theorem DrH.alloc {c : Nat} {w W : World} {A : Int} {v : Value} {ts : List (Value × Value × TI)} (h : DrH c w W A v ts) (o : Obj) : DrH c w (W.alloc o) A v ts := ⟨h.cur.below (below_alloc _ _) h.cur.lt, h.hst.below (below_alloc _ _), h.upd.trans (Upd.of_below (below_alloc _ _))⟩
theorem ti_new (W : World) (x : Value × Value × TI) : ∀ (j : Nat) (u : Value), (tC x)[j]? = some u → (W.alloc (.cells #[.int .i64 x.2.2.bgn, .int .i64 x.2.2.com, x.1, x.2.1] 31)).cell? ((⟨W.heap.size, 0, none⟩ : Addr).add j) = some u := fun j u hj => by
  have hl : j < 4 := by
    by_cases h : j < 4
    · exact h
    · rw [List.getElem?_eq_none (by simp [tC]; omega)] at hj; cases hj
  rw [Addr.add_lit, Nat.zero_add, World.cell?_alloc_at _ _ _ _ (by simp)]
  have : j = 0 ∨ j = 1 ∨ j = 2 ∨ j = 3 := by omega
  rcases this with rfl | rfl | rfl | rfl <;> exact hj
/-- Small: few transactions, short lists. -/
def SmallH (ts : List (Value × Value × TI)) : Prop := ts.length ≤ 8 ∧ ∀ x ∈ ts, x.2.2.reads.length ≤ 5 ∧ x.2.2.writes.length ≤ 5
def HistD (c : Nat) (A : Int) (w : World) (e : Ending) (w' : World) : Prop := ∃ v ts, e = .returned v ∧ DrH c w w' A v ts ∧ SmallH ts
set_option maxHeartbeats 8000000 in
theorem drawHistory_any (c : Nat) (A : Int) (w : World) (h : IsCur w c A) (hA : A ≤ 100000) : Calls Try.prog 35 #[.pointer (some ⟨c, 0, none⟩)] w fun e w' => HistD c (A + 400) w e w' := by
  obtain ⟨i0, hi, hz0, hz1, hz2⟩ := info_parts infoTI
  have hc := h.lt
  have HD0 : Hid (DrH c w (w.alloc (.cells #[] 31)) A (.slice (some ⟨w.heap.size, 0, none⟩) 0 0) []) := (⟨h.below (below_alloc _ _) hc, Hst.made w (Nat.le_refl _), Upd.of_below (below_alloc _ _)⟩ : DrH c w (w.alloc (.cells #[] 31)) A (.slice (some ⟨w.heap.size, 0, none⟩) 0 0) [])
  clear h
  go_enter Try.func35, Try.ntmps35
  go_wp2_with (go_at_call 45; fail)
  refine (pick_any c _ 9 _ HD0.out.cur (by omega) (by omega) (by omega)).mono ?_
  rintro e w2 ⟨r, r0, r1, rfl, hcc, huu⟩
  have HD2 := hid ((HD0.out.step hc huu hcc).mono (show A + 2 ≤ A + 400 - 40 * r by omega))
  clear HD0 hcc huu
  obtain ⟨rn, rfl⟩ : ∃ z : Nat, r = z := ⟨r.toNat, by omega⟩
  clear r0
  generalize some (⟨w.heap.size, 0, none⟩ : Addr) = oa0 at *
  go_wp2
  go_loopw [3, 4, 5] (fun ov av kv wx => ∃ (k : Nat) (a : Int) (ts : List (Value × Value × TI)) (oa : Option Addr) (oc : Nat), k ≤ 8 ∧ kv = .int .i64 (k : Int) ∧ av = .int .i64 a ∧ 0 ≤ a ∧ a + 2 * (k : Int) ≤ 16 ∧ ov = .slice oa ts.length oc ∧ ts.length + k ≤ 8 ∧ Hid (DrH c w wx (A + 400 - 40 * (k : Int)) (.slice oa ts.length oc) ts) ∧ Hid (SmallH ts)) (fun _ _ kv _ => (intOf kv).toNat)
  case atStart => exact ⟨rn, 0, [], oa0, 0, by omega, rfl, rfl, by omega, by omega, rfl, by simp; omega, HD2, hid ⟨by simp, fun x hx => by cases hx⟩⟩
  case round =>
    clear HD2
    obtain ⟨k, a, ts, oa, oc, hk, rfl, rfl, ha0, ha1, rfl, htl, HD, HSM⟩ := hrel
    by_cases hk0 : 0 < k
    · have hki : (0 : Int) < k := by omega
      have hwk : IntKind.i64.wrap ((k : Int) - 1) = (k : Int) - 1 := by simp only [IntKind.wrap_i64]; omega
      go_wp2_with (go_at_call 45; fail)
      refine (pick_any c _ 2 _ HD.out.cur (by omega) (by omega) (by omega)).mono ?_
      rintro e w3 ⟨x, x0, x1, rfl, hcc, huu⟩
      have HD3 := hid (HD.out.step hc huu hcc)
      clear HD hcc huu
      have hw1 : IntKind.i64.wrap (1 + x) = 1 + x := by simp only [IntKind.wrap_i64]; omega
      obtain ⟨at', hat⟩ : ∃ z, z = a + (1 + x) := ⟨_, rfl⟩
      have hw2 : IntKind.i64.wrap (a + (1 + x)) = at' := by rw [hat]; simp only [IntKind.wrap_i64]; omega
      have hat0 : 1 ≤ at' := by omega
      have hat1 : at' ≤ a + 2 := by omega
      have hw3 : IntKind.i64.wrap (at' - 1) = at' - 1 := by simp only [IntKind.wrap_i64]; omega
      clear hat
      go_wp2_with (go_at_call 45; fail)
      refine (pick_any c _ 4 _ HD3.out.cur (by omega) (by omega) (by omega)).mono ?_
      rintro e w4 ⟨y, y0, y1, rfl, hcc, huu⟩
      have HD4 := hid (HD3.out.step hc huu hcc)
      have hs4 : w.heap.size ≤ w4.heap.size := HD4.out.upd.size
      clear HD3 hcc huu
      have hw4 : IntKind.i64.wrap (at' - 1 - y) = at' - 1 - y := by simp only [IntKind.wrap_i64]; omega
      by_cases hbn : at' - 1 - y < 0
      · go_wp2_with (go_at_call 46; fail)
        refine (drawTables_any c _ _ HD4.out.cur (by omega)).mono ?_
        rintro e w5 ⟨v5, xs, rfl, hI5, hl5, hcc, huu⟩
        have HD5 := hid (HD4.out.step hc huu hcc)
        have HI5 := hid hI5
        have hs45 := huu.size
        have HAP1 : Hid (∀ u ∈ nestV ts, Apart u v5) := (fun u hu j hj e => by have h1 := nest_lt HD4.out.hst hu hj; have h2 := (World.ownsRow.lt hI5 j e).1; omega : ∀ u ∈ nestV ts, Apart u v5)
        have HNL := hid (fun (u : Value) (hu : u ∈ nestV ts) (j : Nat) (hj : u.ownBlock = some j) => nest_lt HD5.out.hst hu hj)
        have HL5 := hid (World.ownsRow.lt hI5)
        obtain ⟨oa5, oc5, hv5⟩ := hI5.form
        subst hv5
        clear hI5 hcc huu HD4
        go_wp2_with (go_at_call 46; fail)
        refine (drawTables_any c _ _ HD5.out.cur (by omega)).mono ?_
        rintro e w6 ⟨v6, ys, rfl, hI6, hl6, hcc, huu⟩
        have HD6 := hid (HD5.out.step hc huu hcc)
        have HI56 := hid (HI5.out.upd huu (Nat.lt_of_lt_of_le hc hs4))
        have HI6 := hid hI6
        have HAP2 : Hid (∀ u ∈ nestV ts, Apart u v6) := (fun u hu j hj e => by have h1 := HNL.out u hu j hj; have h2 := (World.ownsRow.lt hI6 j e).1; omega : ∀ u ∈ nestV ts, Apart u v6)
        have HAP3 : Hid (Apart (.slice oa5 xs.length oc5) v6) := (fun j hj e => by have h1 := (HL5.out j hj).2; have h2 := (World.ownsRow.lt hI6 j e).1; omega : Apart (.slice oa5 xs.length oc5) v6)
        obtain ⟨oa6, oc6, hv6⟩ := hI6.form
        subst hv6
        have hs56 := huu.size
        clear hI6 hcc huu HD5 HI5 HNL HL5
        have HDA := hid (HD6.out.alloc (.cells #[.int .i64 0, .int .i64 at', .slice oa5 xs.length oc5, .slice oa6 ys.length oc6] 31))
        have HN := hid (ti_new w6 (.slice oa5 xs.length oc5, .slice oa6 ys.length oc6, ⟨0, at', xs, ys⟩))
        have HIA : Hid (IOw w.heap.size (w6.alloc (.cells #[.int .i64 0, .int .i64 at', .slice oa5 xs.length oc5, .slice oa6 ys.length oc6] 31)) (.slice oa5 xs.length oc5) xs) := own_base (HI56.out.below (below_alloc _ _)) hs4
        have HIB : Hid (IOw w.heap.size (w6.alloc (.cells #[.int .i64 0, .int .i64 at', .slice oa5 xs.length oc5, .slice oa6 ys.length oc6] 31)) (.slice oa6 ys.length oc6) ys) := own_base (HI6.out.below (below_alloc _ _)) (by omega)
        have hsA : w.heap.size ≤ (w6.alloc (.cells #[.int .i64 0, .int .i64 at', .slice oa5 xs.length oc5, .slice oa6 ys.length oc6] 31)).heap.size := HDA.out.upd.size
        clear HD6 HI56 HI6
        go_wp2_with (at_builtin
                     refine wpList_append_own _ rfl (.tmp 26) (.tmp 34) 29 rfl w.heap.size 31 i0 _ 4 64 Try.underlying29 hi hz0 hz1 hz2 rfl (by decide) _ _ _ rfl HDA.out.hst.row ⟨w6.heap.size, 0, none⟩ 1 1 (tC (.slice oa5 xs.length oc5, .slice oa6 ys.length oc6, ⟨0, at', xs, ys⟩)) rfl rfl HN.out (by intro u hu; simp [tC] at hu; rcases hu with rfl | rfl | rfl | rfl <;> rfl) (by unfold maxLen; omega) (by omega) hsA ?_
                     intro v7 w7 hown hgrow hiff
                     clear hiff
                     have HH7 := hid (HDA.out.hst.push HIA.out HIB.out HAP1.out HAP2.out HAP3.out hgrow hown)
                     have hlow : ∀ q, q < w.heap.size → w7.heap[q]? = (w6.alloc (.cells #[.int .i64 0, .int .i64 at', .slice oa5 xs.length oc5, .slice oa6 ys.length oc6] 31)).heap[q]? := fun q hq => hgrow.block q (Nat.lt_of_lt_of_le hq HDA.out.upd.size) (fun e => by have := (HDA.out.hst.row.lt q e.symm).1; omega)
                     have HD7 : Hid (DrH c w w7 (A + 400 - 40 * (k : Int) + 2 + 2 + 8 + 8) v7 (ts ++ [(.slice oa5 xs.length oc5, .slice oa6 ys.length oc6, ⟨0, at', xs, ys⟩)])) := (⟨(HDA.out.cur.same (fun q hq => hlow q (by omega)) (Nat.lt_of_lt_of_le HDA.out.cur.lt hgrow.size)), HH7.out, ⟨hgrow.os.trans HDA.out.upd.os, hgrow.tape.trans HDA.out.upd.tape, hgrow.output.trans HDA.out.upd.output, Nat.le_trans HDA.out.upd.size hgrow.size, fun q hq hq2 => (hlow q hq).trans (HDA.out.upd.block q hq hq2)⟩⟩ : DrH c w w7 (A + 400 - 40 * (k : Int) + 2 + 2 + 8 + 8) v7 (ts ++ [(.slice oa5 xs.length oc5, .slice oa6 ys.length oc6, ⟨0, at', xs, ys⟩)]))
                     obtain ⟨oa7, oc7, hv7⟩ := HD7.out.hst.form
                     subst hv7
                     clear hown hgrow hlow HDA HN HIA HIB HAP1 HAP2 HAP3 HH7)
        go_roundw
        case rel => exact ⟨k - 1, at', ts ++ [(.slice oa5 xs.length oc5, .slice oa6 ys.length oc6, ⟨0, at', xs, ys⟩)], oa7, oc7, by omega, (by congr 1; omega), rfl, by omega, by omega, (by simp), by simp; omega, hid (HD7.out.mono (by omega)), hid ⟨by simp; omega, fun z hz => by
          rcases List.mem_append.1 hz with hz | hz
          · exact HSM.out.2 z hz
          · rw [List.mem_singleton.1 hz]; exact ⟨by show xs.length ≤ 5; omega, by show ys.length ≤ 5; omega⟩⟩⟩
        case measure => simp [intOf]; omega
      · go_wp2_with (go_at_call 46; fail)
        refine (drawTables_any c _ _ HD4.out.cur (by omega)).mono ?_
        rintro e w5 ⟨v5, xs, rfl, hI5, hl5, hcc, huu⟩
        have HD5 := hid (HD4.out.step hc huu hcc)
        have HI5 := hid hI5
        have hs45 := huu.size
        have HAP1 : Hid (∀ u ∈ nestV ts, Apart u v5) := (fun u hu j hj e => by have h1 := nest_lt HD4.out.hst hu hj; have h2 := (World.ownsRow.lt hI5 j e).1; omega : ∀ u ∈ nestV ts, Apart u v5)
        have HNL := hid (fun (u : Value) (hu : u ∈ nestV ts) (j : Nat) (hj : u.ownBlock = some j) => nest_lt HD5.out.hst hu hj)
        have HL5 := hid (World.ownsRow.lt hI5)
        obtain ⟨oa5, oc5, hv5⟩ := hI5.form
        subst hv5
        clear hI5 hcc huu HD4
        go_wp2_with (go_at_call 46; fail)
        refine (drawTables_any c _ _ HD5.out.cur (by omega)).mono ?_
        rintro e w6 ⟨v6, ys, rfl, hI6, hl6, hcc, huu⟩
        have HD6 := hid (HD5.out.step hc huu hcc)
        have HI56 := hid (HI5.out.upd huu (Nat.lt_of_lt_of_le hc hs4))
        have HI6 := hid hI6
        have HAP2 : Hid (∀ u ∈ nestV ts, Apart u v6) := (fun u hu j hj e => by have h1 := HNL.out u hu j hj; have h2 := (World.ownsRow.lt hI6 j e).1; omega : ∀ u ∈ nestV ts, Apart u v6)
        have HAP3 : Hid (Apart (.slice oa5 xs.length oc5) v6) := (fun j hj e => by have h1 := (HL5.out j hj).2; have h2 := (World.ownsRow.lt hI6 j e).1; omega : Apart (.slice oa5 xs.length oc5) v6)
        obtain ⟨oa6, oc6, hv6⟩ := hI6.form
        subst hv6
        have hs56 := huu.size
        clear hI6 hcc huu HD5 HI5 HNL HL5
        have HDA := hid (HD6.out.alloc (.cells #[.int .i64 (at' - 1 - y), .int .i64 at', .slice oa5 xs.length oc5, .slice oa6 ys.length oc6] 31))
        have HN := hid (ti_new w6 (.slice oa5 xs.length oc5, .slice oa6 ys.length oc6, ⟨(at' - 1 - y), at', xs, ys⟩))
        have HIA : Hid (IOw w.heap.size (w6.alloc (.cells #[.int .i64 (at' - 1 - y), .int .i64 at', .slice oa5 xs.length oc5, .slice oa6 ys.length oc6] 31)) (.slice oa5 xs.length oc5) xs) := own_base (HI56.out.below (below_alloc _ _)) hs4
        have HIB : Hid (IOw w.heap.size (w6.alloc (.cells #[.int .i64 (at' - 1 - y), .int .i64 at', .slice oa5 xs.length oc5, .slice oa6 ys.length oc6] 31)) (.slice oa6 ys.length oc6) ys) := own_base (HI6.out.below (below_alloc _ _)) (by omega)
        have hsA : w.heap.size ≤ (w6.alloc (.cells #[.int .i64 (at' - 1 - y), .int .i64 at', .slice oa5 xs.length oc5, .slice oa6 ys.length oc6] 31)).heap.size := HDA.out.upd.size
        clear HD6 HI56 HI6
        go_wp2_with (at_builtin
                     refine wpList_append_own _ rfl (.tmp 26) (.tmp 34) 29 rfl w.heap.size 31 i0 _ 4 64 Try.underlying29 hi hz0 hz1 hz2 rfl (by decide) _ _ _ rfl HDA.out.hst.row ⟨w6.heap.size, 0, none⟩ 1 1 (tC (.slice oa5 xs.length oc5, .slice oa6 ys.length oc6, ⟨(at' - 1 - y), at', xs, ys⟩)) rfl rfl HN.out (by intro u hu; simp [tC] at hu; rcases hu with rfl | rfl | rfl | rfl <;> rfl) (by unfold maxLen; omega) (by omega) hsA ?_
                     intro v7 w7 hown hgrow hiff
                     clear hiff
                     have HH7 := hid (HDA.out.hst.push HIA.out HIB.out HAP1.out HAP2.out HAP3.out hgrow hown)
                     have hlow : ∀ q, q < w.heap.size → w7.heap[q]? = (w6.alloc (.cells #[.int .i64 (at' - 1 - y), .int .i64 at', .slice oa5 xs.length oc5, .slice oa6 ys.length oc6] 31)).heap[q]? := fun q hq => hgrow.block q (Nat.lt_of_lt_of_le hq HDA.out.upd.size) (fun e => by have := (HDA.out.hst.row.lt q e.symm).1; omega)
                     have HD7 : Hid (DrH c w w7 (A + 400 - 40 * (k : Int) + 2 + 2 + 8 + 8) v7 (ts ++ [(.slice oa5 xs.length oc5, .slice oa6 ys.length oc6, ⟨(at' - 1 - y), at', xs, ys⟩)])) := (⟨(HDA.out.cur.same (fun q hq => hlow q (by omega)) (Nat.lt_of_lt_of_le HDA.out.cur.lt hgrow.size)), HH7.out, ⟨hgrow.os.trans HDA.out.upd.os, hgrow.tape.trans HDA.out.upd.tape, hgrow.output.trans HDA.out.upd.output, Nat.le_trans HDA.out.upd.size hgrow.size, fun q hq hq2 => (hlow q hq).trans (HDA.out.upd.block q hq hq2)⟩⟩ : DrH c w w7 (A + 400 - 40 * (k : Int) + 2 + 2 + 8 + 8) v7 (ts ++ [(.slice oa5 xs.length oc5, .slice oa6 ys.length oc6, ⟨(at' - 1 - y), at', xs, ys⟩)]))
                     obtain ⟨oa7, oc7, hv7⟩ := HD7.out.hst.form
                     subst hv7
                     clear hown hgrow hlow HDA HN HIA HIB HAP1 HAP2 HAP3 HH7)
        go_roundw
        case rel => exact ⟨k - 1, at', ts ++ [(.slice oa5 xs.length oc5, .slice oa6 ys.length oc6, ⟨(at' - 1 - y), at', xs, ys⟩)], oa7, oc7, by omega, (by congr 1; omega), rfl, by omega, by omega, (by simp), by simp; omega, hid (HD7.out.mono (by omega)), hid ⟨by simp; omega, fun z hz => by
          rcases List.mem_append.1 hz with hz | hz
          · exact HSM.out.2 z hz
          · rw [List.mem_singleton.1 hz]; exact ⟨by show xs.length ≤ 5; omega, by show ys.length ≤ 5; omega⟩⟩⟩
        case measure => simp [intOf]; omega
    · have hki : ¬ (0 : Int) < k := by omega
      have hke : k = 0 := by omega
      subst hke
      go_wp2
      go_ret
      exact ⟨_, ts, rfl, HD.out.mono (by omega), HSM.out⟩
end Go.Proofs.Ytjfgojlnpbehfaa
