import Derived.Test.YtghdjagomdgnfaaDoorHAA
import Derived.Test.YtghdjagomdgnfaaDoorHAB
import Derived.Test.YtghdjagomdgnfaaDoorHAD
import Derived.Test.YtghdjagomdgnfaaDoorHAN
namespace Go.Proofs.YtghdjagomdgnfaaDoor
open Go.ChangeShapes Go.WideShapes Go.ChangeAt Go.RowKit
set_option linter.unusedVariables false
set_option linter.unusedSimpArgs false
set_option maxRecDepth 100000
open K
/-- Nodes in order: what is in no node yet. -/
def ordS : List (List Int) → Nat → List Int → Option (List Int)
  | [], _, st => some st
  | ks :: r, i, st => if ks.length ≤ st.length ∧ st.drop (st.length - ks.length) = ks then ordS r (i + 1) (st.take (st.length - ks.length) ++ [(i : Int)]) else none
def ordB (ts : List Nd) : Bool := match ordS (ts.map Nd.kids) 0 [] with
  | some st => decide ((st.length : Int) = 1)
  | none => false
theorem kidsOf_any (ts : List Nd) (i g o cap B : Nat) (kv : Value) (w : World) (hi : i < ts.length) (hB : w.cell? ⟨B, 0, none⟩ = some (.slice (some ⟨g, o, none⟩) ts.length cap)) (hk : w.cell? ⟨g, o + i * 10 + 8, none⟩ = some kv) :
    Calls Tryd.prog 32 #[.int .i64 i, .pointer (some ⟨B, 0, none⟩)] w fun e w' => e = .returned kv ∧ w' = w := by
  have hii : (i : Int) < ts.length := by omega
  go_enter Tryd.func32, Tryd.ntmps32
  go_wp2
  go_ret
  exact ⟨rfl, rfl⟩
theorem own_take {w : World} {b e g n cap r : Nat} {xs : List Value} (h : w.ownsRow b e 1 (.slice (some ⟨g, 0, none⟩) n cap) n xs) (hr : r ≤ n) : w.ownsRow b e 1 (.slice (some ⟨g, 0, none⟩) r cap) r (xs.take r) := by
  obtain ⟨h1, h2⟩ := h
  rcases h2 with ⟨h2, _⟩ | ⟨g', cap', cur, hv, hg1, hg2, hg3, hg4, hg5, hg6⟩
  · cases h2
  · simp only [Value.slice.injEq, Option.some.injEq, Addr.mk.injEq] at hv
    obtain ⟨⟨rfl, _, _⟩, _, rfl⟩ := hv
    refine ⟨by rw [List.length_take]; omega, .inr ⟨g, cap, cur, rfl, hg1, hg2, by omega, hg4, hg5, ?_⟩⟩
    rw [← hg6, List.take_take]
    congr 1
    omega
theorem own_shape {w : World} {b e n : Nat} {v : Value} {xs : List Value} (h : w.ownsRow b e 1 v n xs) : (v = .slice none 0 0 ∧ n = 0) ∨ ∃ g cap, v = .slice (some ⟨g, 0, none⟩) n cap ∧ n ≤ cap ∧ cap ≤ maxLen ∧ g < w.heap.size := by
  have hl := h.lt
  rcases h.2 with h2 | ⟨g, cap, cur, rfl, _, _, h3, h4, _⟩
  · exact .inl h2
  · exact .inr ⟨g, cap, rfl, h3, h4, (hl g rfl).2⟩
theorem ordS_no {ks : List Int} {r : List (List Int)} {i : Nat} {st : List Int} (h : ¬ (ks.length ≤ st.length ∧ st.drop (st.length - ks.length) = ks)) : ordS (ks :: r) i st = none := by unfold ordS; rw [if_neg h]
theorem ordS_yes {ks : List Int} {r : List (List Int)} {i : Nat} {st : List Int} (h : ks.length ≤ st.length ∧ st.drop (st.length - ks.length) = ks) : ordS (ks :: r) i st = ordS r (i + 1) (st.take (st.length - ks.length) ++ [(i : Int)]) := by conv => lhs; unfold ordS; rw [if_pos h]
theorem ordB_none {ts : List Nd} (h : ordS (ts.map Nd.kids) 0 [] = none) : ordB ts = false := by unfold ordB; rw [h]
theorem ordB_some {ts : List Nd} {st : List Int} (h : ordS (ts.map Nd.kids) 0 [] = some st) : ordB ts = decide ((st.length : Int) = 1) := by unfold ordB; rw [h]
end Go.Proofs.YtghdjagomdgnfaaDoor
namespace Go.Proofs.YtghdjagomdgnfaaDoor
open Go.ChangeShapes Go.WideShapes Go.ChangeAt Go.RowKit
set_option linter.unusedVariables false
set_option linter.unusedSimpArgs false
set_option maxRecDepth 100000
open K
set_option maxHeartbeats 16000000 in
theorem order_any (ts : List Nd) (g o cap B : Nat) (w : World) (hL : ts.length ≤ 6000) (hB : w.cell? ⟨B, 0, none⟩ = some (.slice (some ⟨g, o, none⟩) ts.length cap)) (hBl : B < w.heap.size) (hg : g < w.heap.size)
    (hk : ∀ i (h : i < ts.length), ts[i].kids.length ≤ 1048576) (hN : ∀ i (h : i < ts.length), ∃ kv, NodeAt w g (o + i * 10) ts[i] kv ∧ RIK w kv ts[i].kids) :
    Calls Tryd.prog 31 #[.int .i64 ts.length, .func (.func 32) #[] #[.pointer (some ⟨B, 0, none⟩)]] w fun e w' => e = .returned (.bool (ordB ts)) ∧ Below w.heap.size w w' := by
  obtain ⟨i0, hi, hz0, hz1, hz2⟩ := info_parts info3
  go_enter Tryd.func31, Tryd.ntmps31
  go_wp2
  go_loopw [5, 10] (fun v iv wr => ∃ (k : Nat) (st : List Int), k ≤ ts.length ∧ iv = .int .i64 k ∧ st.length ≤ k ∧ wr.ownsRow w.heap.size 3 1 v st.length (st.map (Value.int .i64)) ∧ Hid (ordS ((ts.map Nd.kids).drop k) k st = ordS (ts.map Nd.kids) 0 []) ∧ Below w.heap.size w wr) (fun _ iv _ => ts.length - (intOf iv).toNat)
  case atStart => exact ⟨0, [], Nat.zero_le _, rfl, Nat.le_refl _, World.ownsRow_nil _ _ _ _, (by simp : ordS ((ts.map Nd.kids).drop 0) 0 [] = ordS (ts.map Nd.kids) 0 []), Below.refl _ _⟩
  case round =>
    obtain ⟨k, st, hkt, rfl, hsk, hown, HO, hbel⟩ := hrel
    have hbs := hbel.size
    by_cases hlt : k < ts.length
    · have hlti : (k : Int) < ts.length := by omega
      obtain ⟨kv, hNA, hR⟩ := hN k hlt
      have hB' := (hbel.cell (p := ⟨B, 0, none⟩) hBl).trans hB
      have c8 := (hbel.cell (p := ⟨g, o + k * 10 + 8, none⟩) hg).trans hNA.c8
      have hcn := kidsOf_any ts k g o cap B kv wr hlt hB' c8
      have HO1 : Hid (ordS (ts[k].kids :: (ts.map Nd.kids).drop (k + 1)) k st = ordS (ts.map Nd.kids) 0 []) := (by
        have := HO.out
        rw [List.drop_eq_getElem_cons (by simpa using hlt)] at this
        simpa using this : ordS (ts[k].kids :: (ts.map Nd.kids).drop (k + 1)) k st = ordS (ts.map Nd.kids) 0 [])
      have hkl := hk k hlt
      have hR' := hR.below hbel
      obtain ⟨ka, kc, rfl, hkcap, hkc⟩ := hR'
      clear HO hNA hR c8
      generalize ts[k].kids = ks at *
      have hri : (ks.length : Int) ≤ 1048576 := by omega
      have hsi : (st.length : Int) ≤ 6000 := by omega
      have hwr : IntKind.i64.wrap ((st.length : Int) - ks.length) = (st.length : Int) - ks.length := by simp only [IntKind.wrap_i64, wrap64]; omega
      by_cases hA : st.length < ks.length
      · have hneg : (st.length : Int) - ks.length < 0 := by omega
        have HF : Hid (ordB ts = false) := ordB_none (HO1.out ▸ ordS_no (by omega))
        rcases own_shape hown with ⟨rfl, hn0⟩ | ⟨vg, vcap, rfl, hvc, hvm, hvg⟩
        · have hwn : IntKind.i64.wrap (-(ks.length : Int)) = -(ks.length : Int) := by simp only [IntKind.wrap_i64, wrap64]; omega
          have hng : -(ks.length : Int) < 0 := by omega
          have hpos : 0 < ks.length := by omega
          clear hwr hneg
          go_wp2_with (go_at_call 32; refine hcn.mono ?_; rintro e w5 ⟨rfl, hw5⟩; replace hw5 := hw5.symm; subst hw5)
          go_ret
          exact ⟨ret_b HF.out.symm, hbel⟩
        · go_wp2_with (go_at_call 32; refine hcn.mono ?_; rintro e w5 ⟨rfl, hw5⟩; replace hw5 := hw5.symm; subst hw5)
          go_ret
          exact ⟨ret_b HF.out.symm, hbel⟩
      · have hrest : ∃ r : Nat, st.length = r + ks.length := ⟨st.length - ks.length, by omega⟩
        obtain ⟨r, hr⟩ := hrest
        have hdr : st.length - ks.length = r := by omega
        have HO2 : Hid (ordS (ks :: (ts.map Nd.kids).drop (k + 1)) k st = ordS (ts.map Nd.kids) 0 []) := HO1
        have HY : Hid (st.drop r = ks → ordS ((ts.map Nd.kids).drop (k + 1)) (k + 1) (st.take r ++ [(k : Int)]) = ordS (ts.map Nd.kids) 0 []) := (fun h => by
          rw [← HO2.out, ordS_yes ⟨by omega, by rw [hdr]; exact h⟩, hdr] : st.drop r = ks → ordS ((ts.map Nd.kids).drop (k + 1)) (k + 1) (st.take r ++ [(k : Int)]) = ordS (ts.map Nd.kids) 0 [])
        have HNo : Hid (st.drop r ≠ ks → ordB ts = false) := (fun h => ordB_none (by rw [← HO2.out]; exact ordS_no (fun a => h (by have := a.2; rw [hdr] at this; exact this))) : st.drop r ≠ ks → ordB ts = false)
        clear HO1 HO2 hA hdr
        have hsub : (st.length : Int) - ks.length = (r : Int) := by omega
        rw [hsub] at hwr
        by_cases hk0 : ks.length = 0
        · have hks : ks = [] := List.length_eq_zero_iff.1 hk0
          subst hks
          have hrs : st.length = r := by simpa using hr
          have HY2 : Hid (ordS ((ts.map Nd.kids).drop (k + 1)) (k + 1) (st ++ [(k : Int)]) = ordS (ts.map Nd.kids) 0 []) := (by
            have := HY.out (by rw [← hrs, List.drop_length])
            rw [← hrs, List.take_length] at this
            exact this : ordS ((ts.map Nd.kids).drop (k + 1)) (k + 1) (st ++ [(k : Int)]) = ordS (ts.map Nd.kids) 0 [])
          clear HY HNo hwr hsub hr
          subst hrs
          have hl0 : ¬ (st.length : Int) < 0 := by omega
          rcases own_shape hown with ⟨rfl, hn0⟩ | ⟨vg, vcap, rfl, hvc, hvm, hvg⟩
          · have hst : st = [] := List.length_eq_zero_iff.1 hn0
            subst hst
            simp only [List.length_nil, List.map_nil] at hcn hown
            go_wp2_with (first | (go_at_call 32; refine hcn.mono ?_; rintro e w5 ⟨rfl, hw5⟩; replace hw5 := hw5.symm; subst hw5) | (go_at_call 54; refine (Tryd.slices_Equal_int_empty _ _ _ _ _ _ (by omega)).mono ?_; rintro e w5 ⟨rfl, hw5⟩; replace hw5 := hw5.symm; subst hw5) | (at_builtin; refine wpList_append_own _ rfl (.tmp 33) (.tmp 35) 42 rfl w.heap.size 3 i0 (.int .i64 0) 1 8 Tryd.underlying42 hi hz0 hz1 hz2 rfl (by decide) _ _ _ rfl (hown.alloc _) ⟨wr.heap.size, 0, none⟩ 1 1 [.int .i64 k] rfl rfl (cell_one_new _ _ _) (by intro u hu; simp at hu; subst hu; rfl) (by unfold maxLen; omega) (by omega) (by have := hbel.size; simp; omega) ?_; intro v' w1 hown' hgrow _))
            have B1 : Below w.heap.size w w1 := (hbel.alloc hbel.size _).grown hgrow (by have := hbel.size; simp; omega) (fun j hj => by cases hj)
            go_wp2
            go_roundw
            case rel => exact ⟨k + 1, [] ++ [(k : Int)], by omega, by go_num, by simp, by simpa using hown', HY2, B1⟩
            case measure => simp [intOf]; omega
          · by_cases hcap : vcap = st.length
            · subst hcap
              go_wp2_with (first | (go_at_call 32; refine hcn.mono ?_; rintro e w5 ⟨rfl, hw5⟩; replace hw5 := hw5.symm; subst hw5) | (go_at_call 54; refine (Tryd.slices_Equal_int_empty _ _ _ _ _ _ (by omega)).mono ?_; rintro e w5 ⟨rfl, hw5⟩; replace hw5 := hw5.symm; subst hw5) | (at_builtin; refine wpList_append_own _ rfl (.tmp 33) (.tmp 35) 42 rfl w.heap.size 3 i0 (.int .i64 0) 1 8 Tryd.underlying42 hi hz0 hz1 hz2 rfl (by decide) _ _ _ rfl (hown.alloc _) ⟨wr.heap.size, 0, none⟩ 1 1 [.int .i64 k] rfl rfl (cell_one_new _ _ _) (by intro u hu; simp at hu; subst hu; rfl) (by unfold maxLen; omega) (by omega) (by have := hbel.size; simp; omega) ?_; intro v' w1 hown' hgrow _))
              have B1 : Below w.heap.size w w1 := (hbel.alloc hbel.size _).grown hgrow (by have := hbel.size; simp; omega) (fun j hj => by have := (hown.lt j hj).1; omega)
              go_wp2
              go_roundw
              case rel => exact ⟨k + 1, st ++ [(k : Int)], by omega, by go_num, by simp; omega, by simpa using hown', HY2, B1⟩
              case measure => simp [intOf]; omega
            · go_wp2_with (first | (go_at_call 32; refine hcn.mono ?_; rintro e w5 ⟨rfl, hw5⟩; replace hw5 := hw5.symm; subst hw5) | (go_at_call 54; refine (Tryd.slices_Equal_int_empty _ _ _ _ _ _ (by omega)).mono ?_; rintro e w5 ⟨rfl, hw5⟩; replace hw5 := hw5.symm; subst hw5) | (at_builtin; refine wpList_append_own _ rfl (.tmp 33) (.tmp 35) 42 rfl w.heap.size 3 i0 (.int .i64 0) 1 8 Tryd.underlying42 hi hz0 hz1 hz2 rfl (by decide) _ _ _ rfl (hown.alloc _) ⟨wr.heap.size, 0, none⟩ 1 1 [.int .i64 k] rfl rfl (cell_one_new _ _ _) (by intro u hu; simp at hu; subst hu; rfl) (by unfold maxLen; omega) (by omega) (by have := hbel.size; simp; omega) ?_; intro v' w1 hown' hgrow _))
              have B1 : Below w.heap.size w w1 := (hbel.alloc hbel.size _).grown hgrow (by have := hbel.size; simp; omega) (fun j hj => by have := (hown.lt j hj).1; omega)
              go_wp2
              go_roundw
              case rel => exact ⟨k + 1, st ++ [(k : Int)], by omega, by go_num, by simp; omega, by simpa using hown', HY2, B1⟩
              case measure => simp [intOf]; omega
        · obtain ⟨kg, ko, rfl, hkg, hkcc⟩ := hkc (by omega)
          rcases own_shape hown with ⟨rfl, hn0⟩ | ⟨vg, vcap, rfl, hvc, hvm, hvg⟩
          · omega
          · have hne : ¬ vcap = r := by omega
            have hrl : (r : Int) ≤ st.length := by omega
            have hlen : st.length - r = ks.length := by omega
            have hEq := Tryd.slices_Equal_int vg r ks.length (vcap - r) kg ko ks.length kc (st.drop r) ks wr (by rw [List.length_drop]; omega) (Nat.le_refl _) (by omega) (by omega) (fun j hj => by
              rw [List.length_drop] at hj
              have := own_cell hown (j := r + j) (u := .int .i64 ((st.drop r).getD j 0)) (by
                rw [List.getElem?_map, List.getD_eq_getElem?_getD, List.getElem?_drop, List.getElem?_eq_getElem (by omega)]; rfl)
              exact this) (fun j hj => by
              rw [List.getD_eq_getElem?_getD, List.getElem?_eq_getElem hj]; exact hkcc j hj)
            rw [List.take_of_length_le (by rw [List.length_drop]; omega), List.take_length] at hEq
            have hownT := own_take hown (r := r) (by omega)
            clear hkcc hkc
            cases hq : (st.drop r == ks)
            · have HF : Hid (ordB ts = false) := HNo.out (by intro h; rw [h] at hq; simp at hq)
              rw [hq] at hEq
              clear HY HNo
              go_wp2_with (first | (go_at_call 32; refine hcn.mono ?_; rintro e w5 ⟨rfl, hw5⟩; replace hw5 := hw5.symm; subst hw5) | (go_at_call 54; refine hEq.mono ?_; rintro e w6 ⟨rfl, q, rfl⟩))
              go_ret
              exact ⟨ret_b HF.out.symm, hbel.trans ((below_drewNt wr q).mono hbs)⟩
            · have HY2 := HY.out (by simpa using hq)
              rw [hq] at hEq
              clear HY HNo
              have hBq : ∀ q, Below w.heap.size w (wr.drewN q) := fun q => hbel.trans ((below_drewNt wr q).mono hbs)
              go_wp2_with (first | (go_at_call 32; refine hcn.mono ?_; rintro e w5 ⟨rfl, hw5⟩; replace hw5 := hw5.symm; subst hw5) | (go_at_call 54; refine hEq.mono ?_; rintro e w6 ⟨rfl, q, rfl⟩) | (at_builtin; refine wpList_append_own _ rfl (.tmp 33) (.tmp 35) 42 rfl w.heap.size 3 i0 (.int .i64 0) 1 8 Tryd.underlying42 hi hz0 hz1 hz2 rfl (by decide) _ _ _ rfl ((own_below hownT (below_drewNt wr q)).alloc _) ⟨(wr.drewN q).heap.size, 0, none⟩ 1 1 [.int .i64 k] rfl rfl (cell_one_new _ _ _) (by intro u hu; simp at hu; subst hu; rfl) (by unfold maxLen; omega) (by omega) (by have := (hBq q).size; simp; omega) ?_; intro v' w1 hown' hgrow _))
              have B1 : Below w.heap.size w w1 := ((hBq q).alloc (hBq q).size _).grown hgrow (by have := (hBq q).size; simp; omega) (fun j hj => by have := (hownT.lt j hj).1; omega)
              go_wp2
              go_roundw
              case rel => exact ⟨k + 1, st.take r ++ [(k : Int)], by omega, by go_num, by simp; omega, by simpa [List.map_take, Nat.min_eq_left (show r ≤ st.length by omega)] using hown', HY2, B1⟩
              case measure => simp [intOf]; omega
    · have hkn : k = ts.length := by omega
      subst hkn
      have hlti : ¬ (ts.length : Int) < ts.length := by omega
      have HE : Hid (ordB ts = decide ((st.length : Int) = 1)) := (ordB_some (by
        rw [← HO.out, List.drop_of_length_le (by simp)]; rfl) : ordB ts = decide ((st.length : Int) = 1))
      rcases own_shape hown with ⟨rfl, hn0⟩ | ⟨vg, vcap, rfl, hvc, hvm, hvg⟩
      · rw [hn0] at HE
        go_wp2
        go_ret
        exact ⟨ret_b (by rw [HE.out]; rfl), hbel⟩
      · go_wp2
        go_ret
        exact ⟨ret_b (by rw [HE.out]; rfl), hbel⟩
end Go.Proofs.YtghdjagomdgnfaaDoor
namespace Go.Proofs.YtghdjagomdgnfaaDoor
open Go.ChangeShapes Go.WideShapes Go.ChangeAt Go.RowKit
set_option linter.unusedVariables false
set_option linter.unusedSimpArgs false
set_option maxRecDepth 100000
open Go.Shelf
/-- The place of the first that is too deep, or -1. -/
def firstI (ds : List Int) : Int := if ds.any (fun x => decide (100 ≤ x)) then (ds.findIdx (fun x => decide (100 ≤ x)) : Nat) else -1
theorem deep_any (b : Int) (w : World) : Calls Tryd.prog 60 #[.int .i64 b] w fun e w' => e = .returned (.bool (decide (100 ≤ b))) ∧ w' = w := by
  go_enter Tryd.func60, Tryd.ntmps60
  go_wp2
  go_ret
  exact ⟨rfl, rfl⟩
theorem enters60 : ∀ args w, (callFunc 60 args).run Tryd.prog w = .ok (.enter 60 args) w := enters_of Tryd.func60 (by kernel_rfl) rfl
set_option maxHeartbeats 1600000 in
theorem index_any (ds : List Int) (v : Value) (w : World) (hn : ds.length ≤ 1048576) (hv : RI w v ds) :
    Calls Tryd.prog 59 #[v, .func (.func 60) #[] #[]] w fun e w' => e = .returned (.int .i64 (firstI ds)) ∧ w' = w := by
  have eg := enters60
  obtain ⟨a, cap, rfl, hcells⟩ := hv
  go_enter Tryd.func59, Tryd.ntmps59
  go_wp2
  go_loopw [8] (fun i wr => ∃ k : Nat, k ≤ ds.length ∧ i = .int .i64 k ∧ Hid (∀ m (h : m < ds.length), m < k → decide (100 ≤ ds[m]) = false) ∧ wr = w) (fun i _ => ds.length - (intOf i).toNat)
  case atStart => exact ⟨0, Nat.zero_le _, rfl, (fun m h hm => by omega : ∀ m (h : m < ds.length), m < 0 → decide (100 ≤ ds[m]) = false), rfl⟩
  case round =>
    obtain ⟨k, hk, rfl, HA, hw⟩ := hrel
    subst hw
    by_cases hlt : k < ds.length
    · have hlti : (k : Int) < ds.length := by omega
      obtain ⟨g, o, rfl, hg, hgc⟩ := hcells (by omega)
      have c0 := hgc k hlt
      cases hb : decide (100 ≤ ds[k])
      · have HA2 : Hid (∀ m (h : m < ds.length), m < k + 1 → decide (100 ≤ ds[m]) = false) := (fun m h hm => by
          by_cases e : m = k
          · subst e; exact hb
          · exact HA.out m h (by omega) : ∀ m (h : m < ds.length), m < k + 1 → decide (100 ≤ ds[m]) = false)
        have hc' := fun W => deep_any ds[k] W
        rw [hb] at hc'
        clear HA hgc hcells
        generalize ds[k] = x at *
        go_wp2_with (go_at_fn 60; refine (hc' _).mono ?_; rintro e w' ⟨rfl, rfl⟩)
        go_roundw
        case rel => exact ⟨k + 1, by omega, by go_num, HA2, by first | rfl | trivial⟩
        case measure => simp [intOf]; omega
      · have HN : Hid (firstI ds = (k : Int)) := (by
          have ha : ds.any (fun x => decide (100 ≤ x)) = true := List.any_eq_true.2 ⟨ds[k], List.getElem_mem hlt, hb⟩
          unfold firstI
          rw [if_pos ha]
          congr 1
          rw [List.findIdx_eq hlt]
          exact ⟨hb, fun j hj => HA.out j (by omega) hj⟩ : firstI ds = (k : Int))
        have hc' := fun W => deep_any ds[k] W
        rw [hb] at hc'
        clear HA hgc hcells
        generalize ds[k] = x at *
        go_wp2_with (go_at_fn 60; refine (hc' _).mono ?_; rintro e w' ⟨rfl, rfl⟩)
        go_ret
        exact ⟨by rw [HN.out]; rfl, rfl⟩
    · have hlti : ¬ (k : Int) < ds.length := by omega
      have HN : Hid (firstI ds = -1) := (by
        have ha : ds.any (fun x => decide (100 ≤ x)) = false := by
          rw [List.any_eq_false]
          intro x hx
          obtain ⟨m, hm, rfl⟩ := List.getElem_of_mem hx
          have := HA.out m hm (by omega)
          simpa using this
        unfold firstI
        rw [ha]; rfl : firstI ds = -1)
      clear HA
      go_wp2
      go_ret
      exact ⟨by rw [HN.out]; rfl, rfl⟩
end Go.Proofs.YtghdjagomdgnfaaDoor
namespace Go.Proofs.YtghdjagomdgnfaaDoor
open Go.ChangeShapes Go.WideShapes Go.ChangeAt Go.RowKit
set_option linter.unusedVariables false
set_option linter.unusedSimpArgs false
set_option maxRecDepth 100000
open Go.Shelf
set_option maxHeartbeats 8000000 in
theorem depths_34 (ts : List Nd) (nv : Value) (w : World) (hL : ts.length ≤ 6000) (hK : ∀ i (h : i < ts.length), ts[i].kids.length ≤ 1048576 ∧ ∀ x ∈ ts[i].kids, ∃ j : Nat, x = (j : Int) ∧ j < i) (hN : RN w nv ts) :
    Calls Tryd.prog 34 #[nv] w fun e w' => e = .returned (.int .i64 (firstI (depths ts))) ∧ Below w.heap.size w w' := by
  obtain ⟨i0, hi, hz0, hz1, hz2⟩ := info_parts info3
  obtain ⟨a, cap, rfl, hcells⟩ := hN
  go_enter Tryd.func34, Tryd.ntmps34
  go_wp2_with (refine wpList_make_full _ rfl (.tmp 8) (.tmp 8) 42 rfl w.heap.size 3 i0 _ 1 Tryd.underlying42 hi hz0 hz1 .i64 .i64 ts.length ts.length ts.length rfl rfl rfl rfl (by rw [hz2]; omega) (by unfold maxLen; omega) (Nat.le_refl _) ?_; intro w1 hown hgrow)
  have HB : Hid (Below w.heap.size w w1) := (Below.refl _ _).grown hgrow (Nat.le_refl _) (fun k hk => by simp at hk)
  have hb := HB.out
  have hw1 := hb.size
  have hwr : IntKind.i64.wrap ((ts.length : Int) - 1) = (ts.length : Int) - 1 := by simp only [IntKind.wrap_i64, wrap64]; omega
  go_wp2
  go_loopw [4] (fun iv wr => ∃ (n : Nat) (ds : List Int), n ≤ ts.length ∧ iv = .int .i64 ((n : Int) - 1) ∧ ds.length = ts.length ∧ Hid (∀ x ∈ ds, 0 ≤ x ∧ x + n ≤ ts.length) ∧ Hid (dRun ts n ds = depths ts) ∧ wr.ownsRow w.heap.size 3 1 (.slice (some ⟨w.heap.size, 0, none⟩) ts.length ts.length) ts.length (ds.map (Value.int .i64)) ∧ Below w.heap.size w wr) (fun iv _ => ((intOf iv) + 1).toNat)
  case atStart =>
    refine ⟨ts.length, List.replicate ts.length 0, Nat.le_refl _, rfl, by simp, (fun x hx => by rw [List.mem_replicate] at hx; omega : ∀ x ∈ List.replicate ts.length (0 : Int), 0 ≤ x ∧ x + (ts.length : Int) ≤ ts.length), rfl, ?_, hb⟩
    have h0 : (Value.int IntKind.i64 0).cells = #[Value.int IntKind.i64 0] := rfl
    simpa [madeCells, h0, Nat.mod_one, List.map_const'] using hown
  case round =>
    obtain ⟨n, ds, hn, rfl, hdl, HX, HD, ho, hbel⟩ := hrel
    obtain ⟨w0, hw0⟩ : ∃ x, x = wr := ⟨_, rfl⟩
    subst hw0
    have hbs := hbel.size
    cases n with
    | zero =>
      have HE : Hid (ds = depths ts) := HD.out
      have hR : RI w0 (.slice (some ⟨w.heap.size, 0, none⟩) ts.length ts.length) ds := ⟨some ⟨w.heap.size, 0, none⟩, ts.length, by rw [hdl], fun hp => ⟨w.heap.size, 0, rfl, (ho.lt _ rfl).2, fun i hi => by
        rw [Nat.zero_add]
        exact own_cell ho (by rw [List.getElem?_map, List.getElem?_eq_getElem hi]; rfl)⟩⟩
      have hcn := fun W (h : W = w0) => index_any ds (.slice (some ⟨w.heap.size, 0, none⟩) ts.length ts.length) W (by omega) (h ▸ hR)
      rw [HE.out] at hcn
      go_wp2_with (go_at_call 59; refine (hcn _ rfl).mono ?_; rintro e w5 ⟨rfl, rfl⟩)
      go_ret
      exact ⟨rfl, hbel⟩
    | succ i =>
      rw [show ((i + 1 : Nat) : Int) - 1 = (i : Int) by omega]
      have hi1 : i < ts.length := by omega
      have hii : (i : Int) < ts.length := by omega
      have hwi : IntKind.i64.wrap ((i : Int) - 1) = (i : Int) - 1 := by simp only [IntKind.wrap_i64, wrap64]; omega
      obtain ⟨g, o, rfl, hg, hgc⟩ := hcells (by omega)
      obtain ⟨kv, hNA, hKR⟩ := hgc i hi1
      have c8 := (hbel.cell (p := ⟨g, o + i * 10 + 8, none⟩) hg).trans hNA.c8
      obtain ⟨ka, kc, rfl, hkc⟩ := hKR
      obtain ⟨hkl, hkj⟩ := hK i hi1
      obtain ⟨d, hd⟩ : ∃ d, ds[i]? = some d := ⟨_, List.getElem?_eq_getElem (by omega)⟩
      have hdb := HX.out d (List.mem_of_getElem? hd)
      have HD2 : Hid (dRun ts i (dKids ds d ts[i].kids) = depths ts) := (by
        have := HD.out
        unfold dRun at this
        rw [List.getElem?_eq_getElem hi1, Option.map_some, Option.getD_some, List.getD_eq_getElem?_getD, hd, Option.getD_some] at this
        exact this : dRun ts i (dKids ds d ts[i].kids) = depths ts)
      have HX1 := HX.out
      clear HD hgc hNA HX
      generalize ts[i].kids = ks at *
      go_wp2
      go_loopw [23] (fun mv wx => ∃ (m : Nat) (es : List Int), m ≤ ks.length ∧ mv = .int .i64 m ∧ es.length = ts.length ∧ es[i]? = some d ∧ Hid (∀ x ∈ es, 0 ≤ x ∧ x + i ≤ ts.length) ∧ Hid (dKids es d (ks.drop m) = dKids ds d ks) ∧ wx.ownsRow w.heap.size 3 1 (.slice (some ⟨w.heap.size, 0, none⟩) ts.length ts.length) ts.length (es.map (Value.int .i64)) ∧ Below w.heap.size w wx) (fun mv _ => ks.length - (intOf mv).toNat)
      case atStart => exact ⟨0, ds, Nat.zero_le _, rfl, hdl, hd, (fun x hx => by have := HX1 x hx; omega : ∀ x ∈ ds, 0 ≤ x ∧ x + (i : Int) ≤ ts.length), (by simp : dKids ds d (ks.drop 0) = dKids ds d ks), ho, hbel⟩
      case round =>
        obtain ⟨m, es, hm, rfl, hel, hed, HEX, HED, hoe, hbe⟩ := hrel
        have hbes := hbe.size
        by_cases hlt : m < ks.length
        · have hlti : (m : Int) < ks.length := by omega
          obtain ⟨kg, ko, rfl, hkg, hkcc⟩ := hkc (by omega)
          have k0 := (hbe.cell (p := ⟨kg, ko + m, none⟩) hkg).trans (hkcc m hlt)
          obtain ⟨j, hj, hji⟩ := hkj _ (List.getElem_mem hlt)
          rw [hj] at k0
          have hjt : (j : Int) < ts.length := by omega
          have e0 := own_cell hoe (j := i) (u := .int .i64 d) (by rw [List.getElem?_map, hed]; rfl)
          obtain ⟨y0, hy0⟩ : ∃ u, es[j]? = some u := ⟨_, List.getElem?_eq_getElem (by omega)⟩
          have e1 := own_cell hoe (j := j) (u := .int .i64 y0) (by rw [List.getElem?_map, hy0]; rfl)
          have f1 := hoe.frozenAt j
          have hwd : IntKind.i64.wrap (d + 1) = d + 1 := by simp only [IntKind.wrap_i64, wrap64]; omega
          have HO2 : Hid (World.ownsRow (wr.setCell ⟨w.heap.size, j, none⟩ (.int .i64 (d + 1))) w.heap.size 3 1 (.slice (some ⟨w.heap.size, 0, none⟩) ts.length ts.length) ts.length ((es.set j (d + 1)).map (Value.int .i64))) := (by
            have := (hoe.stored j (.int .i64 (d + 1))).1
            rw [List.map_set]; exact this : World.ownsRow (wr.setCell ⟨w.heap.size, j, none⟩ (.int .i64 (d + 1))) w.heap.size 3 1 (.slice (some ⟨w.heap.size, 0, none⟩) ts.length ts.length) ts.length ((es.set j (d + 1)).map (Value.int .i64)))
          have HS : Hid (dKids (es.set j (d + 1)) d (ks.drop (m + 1)) = dKids ds d ks) := (by
            have := HED.out
            rw [List.drop_eq_getElem_cons hlt, hj] at this
            exact this : dKids (es.set j (d + 1)) d (ks.drop (m + 1)) = dKids ds d ks)
          have HX2 : Hid (∀ x ∈ es.set j (d + 1), 0 ≤ x ∧ x + (i : Int) ≤ ts.length) := (fun x hx => by
            rcases List.mem_or_eq_of_mem_set hx with h | h
            · exact HEX.out x h
            · subst h; omega : ∀ x ∈ es.set j (d + 1), 0 ≤ x ∧ x + (i : Int) ≤ ts.length)
          have hei : (es.set j (d + 1))[i]? = some d := by rw [List.getElem?_set_ne (by omega)]; exact hed
          have hesl : (es.set j (d + 1)).length = ts.length := by rw [List.length_set]; exact hel
          clear hkcc HED HEX hy0 hj hed hel hdl hd
          go_wp2
          go_roundw
          case rel => exact ⟨m + 1, es.set j (d + 1), by omega, by go_num, hesl, hei, HX2, HS, HO2.out, hbe.setCell (Nat.le_refl _) _⟩
          case measure => simp [intOf]; omega
        · have hmn : m = ks.length := by omega
          subst hmn
          have hlti : ¬ (ks.length : Int) < ks.length := by omega
          have HE : Hid (dRun ts i es = depths ts) := (by
            have := HED.out
            rw [List.drop_length] at this
            rw [show es = dKids ds d ks from this]; exact HD2.out : dRun ts i es = depths ts)
          clear HED HD2 hdl hd hed
          go_wp2
          go_roundw
          case rel => exact ⟨i, es, by omega, rfl, hel, HEX, HE, hoe, hbe⟩
          case measure => simp [intOf]
end Go.Proofs.YtghdjagomdgnfaaDoor
