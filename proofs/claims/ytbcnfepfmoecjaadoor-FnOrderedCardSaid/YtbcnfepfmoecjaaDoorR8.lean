import Derived.Test.YtbcnfepfmoecjaaDoorR7
import Derived.Deep.CutRange
import Derived.Deep.DeepCutAuto
namespace Go.Proofs.YtbcnfepfmoecjaaDoor.Dr
open Go.ChangeShapes Go.WideShapes Go.ChangeAt Go.RowKit
set_option linter.unusedVariables false
set_option linter.unusedSimpArgs false
set_option maxRecDepth 100000
def tails5 : List ByteArray := [⟨#[]⟩, ⟨#[0]⟩, ⟨#[1]⟩, ⟨#[0, 0]⟩, ⟨#[97]⟩]
def tails5' : List ByteArray := [⟨#[]⟩, ⟨#[97]⟩, ⟨#[0]⟩, ⟨#[1]⟩, ⟨#[122]⟩]
theorem tails5_size (i : Nat) : (tails5.getD i ByteArray.empty).size ≤ 2 := getD_all (P := fun t : ByteArray => t.size ≤ 2) (by decide) (by decide) i
theorem tails5'_size (i : Nat) : (tails5'.getD i ByteArray.empty).size ≤ 2 := getD_all (P := fun t : ByteArray => t.size ≤ 2) (by decide) (by decide) i
theorem lit_tails5 (i : Nat) (h : i < 5) (h' : i < ([Value.string ⟨#[]⟩, Value.string ⟨#[0]⟩, Value.string ⟨#[1]⟩, Value.string ⟨#[0, 0]⟩, Value.string ⟨#[97]⟩] : List Value).length) : ([Value.string ⟨#[]⟩, Value.string ⟨#[0]⟩, Value.string ⟨#[1]⟩, Value.string ⟨#[0, 0]⟩, Value.string ⟨#[97]⟩] : List Value)[i]'h' = .string (tails5.getD i ByteArray.empty) := by
  have e : i = 0 ∨ i = 1 ∨ i = 2 ∨ i = 3 ∨ i = 4 := by omega
  rcases e with rfl | rfl | rfl | rfl | rfl <;> rfl
theorem lit_tails5' (i : Nat) (h : i < 5) (h' : i < ([Value.string ⟨#[]⟩, Value.string ⟨#[97]⟩, Value.string ⟨#[0]⟩, Value.string ⟨#[1]⟩, Value.string ⟨#[122]⟩] : List Value).length) : ([Value.string ⟨#[]⟩, Value.string ⟨#[97]⟩, Value.string ⟨#[0]⟩, Value.string ⟨#[1]⟩, Value.string ⟨#[122]⟩] : List Value)[i]'h' = .string (tails5'.getD i ByteArray.empty) := by
  have e : i = 0 ∨ i = 1 ∨ i = 2 ∨ i = 3 ∨ i = 4 := by omega
  rcases e with rfl | rfl | rfl | rfl | rfl <;> rfl
/-- Two drawn values, the cursor forgotten. -/
def Pair (w : World) (e : Ending) (w' : World) : Prop := ∃ (k n : Int) (s : ByteArray) (k' n' : Int) (s' : ByteArray), s.size ≤ 800 ∧ s'.size ≤ 800 ∧ e = .returned (.tuple #[.agg #[.int .i64 k, .int .i64 n, .string s], .agg #[.int .i64 k', .int .i64 n', .string s']]) ∧ Below w.heap.size w w'
theorem pair_mk {w w1 w2 : World} {k n : Int} {s : ByteArray} {k' n' : Int} {s' : ByteArray} (hs : s.size ≤ 800) (hs' : s'.size ≤ 800) (hu : Below w.heap.size w w1) (hb : Below w.heap.size w1 w2) : Pair w (.returned (.tuple #[.agg #[.int .i64 k, .int .i64 n, .string s], .agg #[.int .i64 k', .int .i64 n', .string s']])) w2 :=
  ⟨k, n, s, k', n', s', hs, hs', rfl, hu.trans hb⟩
theorem cur_new (w : World) (v0 : Option Addr) (len cap : Nat) (c : Nat) (hc : c = w.heap.size) (hl : len ≤ 1048576) (hb : ∀ j, j < len → ∃ g o b, v0 = some ⟨g, o, none⟩ ∧ g < w.heap.size ∧ w.cell? ⟨g, o + j, none⟩ = some (.int .u8 b) ∧ 0 ≤ b ∧ b < 256) :
    IsCur (w.alloc (.cells #[.slice v0 len cap, .int .i64 0, .int .i64 0, .int .i64 0] 69)) c 0 := by
  subst hc
  refine ⟨v0, len, cap, 0, 0, 0, ⟨by simp [go_sem], by simp [go_sem], by simp [go_sem], by simp [go_sem], by simp [go_sem], by simp [go_sem], by omega, by omega, by omega, by omega, hl, by simp, ?_⟩⟩
  intro j hj
  obtain ⟨g, o, b, e1, e2, e3, e4, e5⟩ := hb j hj
  exact ⟨g, o, b, e1, e2, ((below_alloc w _).cell (p := ⟨g, o + j, none⟩) e2).trans e3, e4, e5⟩
set_option maxHeartbeats 8000000 in
theorem drawCompare_any (v0 : Option Addr) (len cap : Nat) (w : World) (hl : len ≤ 1048576) (hb : ∀ j, j < len → ∃ g o b, v0 = some ⟨g, o, none⟩ ∧ g < w.heap.size ∧ w.cell? ⟨g, o + j, none⟩ = some (.int .u8 b) ∧ 0 ≤ b ∧ b < 256) :
    Calls Tryd.prog 24 #[.slice v0 len cap] w fun e w' => Pair w e w' := by
  have hc0 : IsCur (((w.alloc (.cells #[.int .i64 0, .int .i64 0, .string ⟨#[]⟩] 26)).alloc (.cells #[.int .i64 0, .int .i64 0, .string ⟨#[]⟩] 26)).alloc (.cells #[.slice v0 len cap, .int .i64 0, .int .i64 0, .int .i64 0] 69)) (w.heap.size + 1 + 1) 0 :=
    cur_new _ v0 len cap _ (by simp) hl (fun j hj => by
      obtain ⟨g, o, b, e1, e2, e3, e4, e5⟩ := hb j hj
      exact ⟨g, o, b, e1, by simp; omega, (((below_alloc w _).alloc (by simp) _).cell (p := ⟨g, o + j, none⟩) e2).trans e3, e4, e5⟩)
  have hne : w.heap.size ≠ w.heap.size + 1 + 1 := by omega
  have hne' : w.heap.size + 1 ≠ w.heap.size + 1 + 1 := by omega
  clear hb
  go_enter Tryd.func24, Tryd.ntmps24
  go_wp2_with fail
  refine (drawTwo_any (w.heap.size + 1 + 1) 0 _ hc0 (by omega)).mono ?_
  rintro e w1 ⟨k, n, s, k', n', s', hs, hs', rfl, hc1, hu1⟩
  have hr1 : Holds w1 w.heap.size 0 0 ⟨#[]⟩ := ((Holds.new w 0 0 ⟨#[]⟩).below ((below_alloc _ _).alloc (by simp) _) (by simp)).upd hu1 hne
  have hq1 : Holds w1 (w.heap.size + 1) 0 0 ⟨#[]⟩ := by
    have := ((Holds.new (w.alloc (.cells #[.int .i64 0, .int .i64 0, .string ⟨#[]⟩] 26)) 0 0 ⟨#[]⟩).below (below_alloc _ _) (by simp)).upd hu1 (by simp)
    simpa using this
  have BW1 : Hid (Below w.heap.size w w1) := Upd.below (((below_alloc w _).alloc (by simp) _).alloc (by simp; omega) _) hu1 (by omega)
  have hlt := hc1.lt
  clear hu1 hc0
  generalize hC : w.heap.size + 1 + 1 = c at *
  have HC : Hid (w.heap.size + 1 + 1 = c) := hC
  have hz := hq1.lt
  have hz' := hr1.lt
  have d1 : w.heap.size ≠ w1.heap.size := by omega
  have d2 : w1.heap.size ≠ w.heap.size := by omega
  have d3 : w.heap.size + 1 ≠ w1.heap.size := by omega
  have d4 : w1.heap.size ≠ w.heap.size + 1 := by omega
  have d5 : w.heap.size ≠ w1.heap.size + 1 := by omega
  have d6 : w1.heap.size + 1 ≠ w.heap.size := by omega
  have d7 : w.heap.size + 1 ≠ w1.heap.size + 1 := by omega
  have d8 : w1.heap.size + 1 ≠ w.heap.size + 1 := by omega
  have HS : Hid (s.size ≤ 700) := hs
  have HS' : Hid (s'.size ≤ 700) := hs'
  clear hs hs'
  by_cases t3 : k = 3 ∧ k' = 3
  · obtain ⟨rfl, rfl⟩ := t3
    clear hC
    go_wp2_with fail
    refine (pick_any c 100 4 _ (hc1.below (B := w1.heap.size) (by (go_light; repeat (first | with_reducible exact Below.refl _ _ | (with_reducible refine Below.setCell ?_ ?_ _; rotate_left; (focus first | (simp; done) | (simp; omega) | omega)) | (with_reducible refine Below.alloc ?_ ?_ _; rotate_left; (focus first | (simp; done) | (simp; omega) | omega)) | with_reducible refine Below.drew ?_))) hlt) (by omega) (by omega) (by omega)).mono ?_
    rintro e w3 ⟨r, r0, r1, rfl, hc3, hu3⟩
    have va : w1.heap.size ≠ c := by omega
    have vb : w1.heap.size + 1 ≠ c := by omega
    have hr3 := Holds.upd (hr1.below (B := w1.heap.size) (by (go_light; repeat (first | with_reducible exact Below.refl _ _ | (with_reducible refine Below.setCell ?_ ?_ _; rotate_left; (focus first | (simp; done) | (simp; omega) | omega)) | (with_reducible refine Below.alloc ?_ ?_ _; rotate_left; (focus first | (simp; done) | (simp; omega) | omega)) | with_reducible refine Below.drew ?_))) hz') hu3 hne
    have hq3 := Holds.upd (hq1.below (B := w1.heap.size) (by (go_light; repeat (first | with_reducible exact Below.refl _ _ | (with_reducible refine Below.setCell ?_ ?_ _; rotate_left; (focus first | (simp; done) | (simp; omega) | omega)) | (with_reducible refine Below.alloc ?_ ?_ _; rotate_left; (focus first | (simp; done) | (simp; omega) | omega)) | with_reducible refine Below.drew ?_))) hz) hu3 hne'
    have ha3 : Holds w3 w1.heap.size 3 n s := Holds.upd ⟨by simp [go_sem], by simp [go_sem], by simp [go_sem], by simp [go_sem], by simp [go_sem], by simp [go_sem], by simp; omega⟩ hu3 va
    have hb3 : Holds w3 (w1.heap.size + 1) 3 n' s' := Holds.upd ⟨by simp [go_sem], by simp [go_sem], by simp [go_sem], by simp [go_sem], by simp [go_sem], by simp [go_sem], by simp⟩ hu3 vb
    have BW3 : Hid (Below w.heap.size w w3) := Upd.below (BW1.out.trans (by (go_light; repeat (first | with_reducible exact Below.refl _ _ | (with_reducible refine Below.setCell ?_ ?_ _; rotate_left; (focus first | (simp; done) | (simp; omega) | omega)) | (with_reducible refine Below.alloc ?_ ?_ _; rotate_left; (focus first | (simp; done) | (simp; omega) | omega)) | with_reducible refine Below.drew ?_)))) hu3 (by have := HC.out; omega)
    clear hr1 hq1 hc1 BW1 hu3
    by_cases e3 : r = 3
    · subst e3
      go_upto_region 4 with fail
      go_cut [28] from 28 to 36 (fun x wx => ∃ t : ByteArray, t.size ≤ 800 ∧ Holds wx w.heap.size 0 0 ⟨#[]⟩ ∧ Holds wx (w.heap.size + 1) 0 0 ⟨#[]⟩ ∧ Holds wx w1.heap.size 3 n s ∧ Holds wx (w1.heap.size + 1) 3 n' t ∧ IsCur wx c 110 ∧ Below w.heap.size w wx)
      case first =>
        have ha := ha3
        have hb := hb3
        have hcc := hc3
        have hcx : w3.heap.size ≠ c := by have := hc3.lt; omega
        have hs0 := HS.out
        have hs1 := HS'.out
        obtain ⟨a0, a1, a2, a3, a4, a5, a6⟩ := ha3
        obtain ⟨b0, b1, b2, b3, b4, b5, b6⟩ := hb3
        go_region_with (first | (go_at_call 52; refine (pick_any c 102 5 (w3.alloc (.cells (tails5.map Value.string).toArray 9)).drew ((cur_alloc hcc _).drew.mono (by omega)) (by omega) (by omega) (by omega)).mono ?_; rintro e w6 ⟨p, pz, po, rfl, hc6, hu6⟩; have hu6' : Upd c w3 w6 := ((upd_alloc c w3 _).trans (Upd.of_below (below_drew _))).trans hu6; have hx : w6.cell? ⟨w3.heap.size, p.toNat, none⟩ = some (.string (tails5.getD p.toNat ByteArray.empty)) := (hu6.cell (p := ⟨w3.heap.size, p.toNat, none⟩) (by simp) hcx).trans (alloc_strs w3 tails5 p.toNat (by show p.toNat < 5; omega)); have ht6 := tails5_size p.toNat; generalize tails5.getD p.toNat ByteArray.empty = t6 at *; obtain ⟨o0, o1, o2, o3, o4, o5, o6⟩ := Holds.upd ha hu6' va; obtain ⟨m0, m1, m2, m3, m4, m5, m6⟩ := Holds.upd hb hu6' vb) | (go_at_call 52; refine (pick_any c 102 5 w3.drew (hcc.drew.mono (by omega)) (by omega) (by omega) (by omega)).mono ?_; rintro e w6 ⟨p, pz, po, rfl, hc6, hu6⟩; have hu6' : Upd c w3 w6 := (Upd.of_below (below_drew _)).trans hu6; have hx2 : ∀ h', ([Value.string ⟨#[]⟩, Value.string ⟨#[0]⟩, Value.string ⟨#[1]⟩, Value.string ⟨#[0, 0]⟩, Value.string ⟨#[97]⟩] : List Value)[p.toNat]'h' = .string (tails5.getD p.toNat ByteArray.empty) := lit_tails5 p.toNat (by omega); have ht6 := tails5_size p.toNat; generalize tails5.getD p.toNat ByteArray.empty = t6 at *; obtain ⟨o0, o1, o2, o3, o4, o5, o6⟩ := Holds.upd ha hu6' va; obtain ⟨m0, m1, m2, m3, m4, m5, m6⟩ := Holds.upd hb hu6' vb))
        all_goals
          go_wp2_with fail
          go_meet
          refine ⟨s ++ t6, by rw [ByteArray.size_append]; omega, (hr3.upd hu6' hne).below (B := w1.heap.size + 1) (by (go_light; repeat (first | with_reducible exact Below.refl _ _ | (with_reducible refine Below.setCell ?_ ?_ _; rotate_left; (focus first | (simp; done) | (simp; omega) | omega)) | (with_reducible refine Below.alloc ?_ ?_ _; rotate_left; (focus first | (simp; done) | (simp; omega) | omega)) | with_reducible refine Below.drew ?_))) (by omega), (hq3.upd hu6' hne').below (B := w1.heap.size + 1) (by (go_light; repeat (first | with_reducible exact Below.refl _ _ | (with_reducible refine Below.setCell ?_ ?_ _; rotate_left; (focus first | (simp; done) | (simp; omega) | omega)) | (with_reducible refine Below.alloc ?_ ?_ _; rotate_left; (focus first | (simp; done) | (simp; omega) | omega)) | with_reducible refine Below.drew ?_))) (by omega), (ha.upd hu6' va).below (B := w1.heap.size + 1) (by (go_light; repeat (first | with_reducible exact Below.refl _ _ | (with_reducible refine Below.setCell ?_ ?_ _; rotate_left; (focus first | (simp; done) | (simp; omega) | omega)) | (with_reducible refine Below.alloc ?_ ?_ _; rotate_left; (focus first | (simp; done) | (simp; omega) | omega)) | with_reducible refine Below.drew ?_))) (by omega), ⟨by simp [go_sem, m0, m1, m2, m3, m4, m5, m6], by simp [go_sem, m0, m1, m2, m3, m4, m5, m6], by simp [go_sem, m0, m1, m2, m3, m4, m5, m6], by simp [go_sem, m0, m1, m2, m3, m4, m5, m6], by simp [go_sem, m0, m1, m2, m3, m4, m5, m6], by simp [go_sem, m0, m1, m2, m3, m4, m5, m6], by first | (simp [go_sem, m6]; done) | (simp [go_sem]; omega)⟩, (hc6.below (B := w1.heap.size + 1) (by (go_light; repeat (first | with_reducible exact Below.refl _ _ | (with_reducible refine Below.setCell ?_ ?_ _; rotate_left; (focus first | (simp; done) | (simp; omega) | omega)) | (with_reducible refine Below.alloc ?_ ?_ _; rotate_left; (focus first | (simp; done) | (simp; omega) | omega)) | with_reducible refine Below.drew ?_))) (by omega)).mono (by omega), (Upd.below BW3.out hu6' (by have := HC.out; omega)).trans (by (go_light; repeat (first | with_reducible exact Below.refl _ _ | (with_reducible refine Below.setCell ?_ ?_ _; rotate_left; (focus first | (simp; done) | (simp; omega) | omega)) | (with_reducible refine Below.alloc ?_ ?_ _; rotate_left; (focus first | (simp; done) | (simp; omega) | omega)) | with_reducible refine Below.drew ?_)))⟩
      case rest =>
        obtain ⟨t, ht, hr4, hq4, ha4, hb4, hc4, bw4⟩ := hcut
        have HT : Hid (t.size ≤ 800) := ht
        have BW4 : Hid (Below w.heap.size w wc) := bw4
        clear ht bw4 ha3 hb3 hr3 hq3 hc3 BW3
        go_upto_region 5 with fail
        go_cut [37] from 37 to 46 (fun x wx => ∃ u : ByteArray, u.size ≤ 800 ∧ Holds wx w.heap.size 0 0 ⟨#[]⟩ ∧ Holds wx (w.heap.size + 1) 0 0 ⟨#[]⟩ ∧ Holds wx w1.heap.size 3 n u ∧ Holds wx (w1.heap.size + 1) 3 n' t ∧ Below w.heap.size w wx)
        case first =>
          have ha := ha4
          have hb := hb4
          have hcc := hc4
          have hcx : wc.heap.size ≠ c := by have := hc4.lt; omega
          have hs0 := HS.out
          obtain ⟨a0, a1, a2, a3, a4, a5, a6⟩ := ha4
          obtain ⟨b0, b1, b2, b3, b4, b5, b6⟩ := hb4
          go_region_with (first | (go_at_call 52; refine (pick_any c 110 5 (wc.alloc (.cells (tails5'.map Value.string).toArray 9)).drew ((cur_alloc hcc _).drew.mono (by omega)) (by omega) (by omega) (by omega)).mono ?_; rintro e w6 ⟨p, pz, po, rfl, hc6, hu6⟩; have hu6' : Upd c wc w6 := ((upd_alloc c wc _).trans (Upd.of_below (below_drew _))).trans hu6; have hx : w6.cell? ⟨wc.heap.size, p.toNat, none⟩ = some (.string (tails5'.getD p.toNat ByteArray.empty)) := (hu6.cell (p := ⟨wc.heap.size, p.toNat, none⟩) (by simp) hcx).trans (alloc_strs wc tails5' p.toNat (by show p.toNat < 5; omega)); have ht6 := tails5'_size p.toNat; generalize tails5'.getD p.toNat ByteArray.empty = t6 at *; obtain ⟨o0, o1, o2, o3, o4, o5, o6⟩ := Holds.upd ha hu6' va; obtain ⟨m0, m1, m2, m3, m4, m5, m6⟩ := Holds.upd hb hu6' vb) | (go_at_call 52; refine (pick_any c 110 5 wc.drew (hcc.drew.mono (by omega)) (by omega) (by omega) (by omega)).mono ?_; rintro e w6 ⟨p, pz, po, rfl, hc6, hu6⟩; have hu6' : Upd c wc w6 := (Upd.of_below (below_drew _)).trans hu6; have hx2 : ∀ h', ([Value.string ⟨#[]⟩, Value.string ⟨#[97]⟩, Value.string ⟨#[0]⟩, Value.string ⟨#[1]⟩, Value.string ⟨#[122]⟩] : List Value)[p.toNat]'h' = .string (tails5'.getD p.toNat ByteArray.empty) := lit_tails5' p.toNat (by omega); have ht6 := tails5'_size p.toNat; generalize tails5'.getD p.toNat ByteArray.empty = t6 at *; obtain ⟨o0, o1, o2, o3, o4, o5, o6⟩ := Holds.upd ha hu6' va; obtain ⟨m0, m1, m2, m3, m4, m5, m6⟩ := Holds.upd hb hu6' vb))
          all_goals
            go_wp2_with fail
            go_meet
            refine ⟨s ++ (⟨#[0]⟩ ++ t6), by rw [ByteArray.size_append, ByteArray.size_append, show (ByteArray.mk #[0]).size = 1 from rfl]; omega, (hr4.upd hu6' hne).below (B := w1.heap.size) (by (go_light; repeat (first | with_reducible exact Below.refl _ _ | (with_reducible refine Below.setCell ?_ ?_ _; rotate_left; (focus first | (simp; done) | (simp; omega) | omega)) | (with_reducible refine Below.alloc ?_ ?_ _; rotate_left; (focus first | (simp; done) | (simp; omega) | omega)) | with_reducible refine Below.drew ?_))) (by omega), (hq4.upd hu6' hne').below (B := w1.heap.size) (by (go_light; repeat (first | with_reducible exact Below.refl _ _ | (with_reducible refine Below.setCell ?_ ?_ _; rotate_left; (focus first | (simp; done) | (simp; omega) | omega)) | (with_reducible refine Below.alloc ?_ ?_ _; rotate_left; (focus first | (simp; done) | (simp; omega) | omega)) | with_reducible refine Below.drew ?_))) (by omega), ⟨by simp [go_sem, o0, o1, o2, o3, o4, o5, o6], by simp [go_sem, o0, o1, o2, o3, o4, o5, o6], by simp [go_sem, o0, o1, o2, o3, o4, o5, o6], by simp [go_sem, o0, o1, o2, o3, o4, o5, o6], by simp [go_sem, o0, o1, o2, o3, o4, o5, o6], by simp [go_sem, o0, o1, o2, o3, o4, o5, o6], by first | (simp [go_sem, o6]; done) | (simp [go_sem]; omega)⟩, ⟨by simp [go_sem, m0, m1, m2, m3, m4, m5, m6], by simp [go_sem, m0, m1, m2, m3, m4, m5, m6], by simp [go_sem, m0, m1, m2, m3, m4, m5, m6], by simp [go_sem, m0, m1, m2, m3, m4, m5, m6], by simp [go_sem, m0, m1, m2, m3, m4, m5, m6], by simp [go_sem, m0, m1, m2, m3, m4, m5, m6], by first | (simp [go_sem, m6]; done) | (simp [go_sem]; omega)⟩, (Upd.below BW4.out hu6' (by have := HC.out; omega)).trans (by (go_light; repeat (first | with_reducible exact Below.refl _ _ | (with_reducible refine Below.setCell ?_ ?_ _; rotate_left; (focus first | (simp; done) | (simp; omega) | omega)) | (with_reducible refine Below.alloc ?_ ?_ _; rotate_left; (focus first | (simp; done) | (simp; omega) | omega)) | with_reducible refine Below.drew ?_)))⟩
        case rest =>
          obtain ⟨u, hu, hr5, hq5, ha5, hb5, bw5⟩ := hcut
          have HU : Hid (u.size ≤ 800) := hu
          have BW5 : Hid (Below w.heap.size w wc) := bw5
          obtain ⟨p0, p1, p2, p3, p4, p5, p6⟩ := hr5
          obtain ⟨q0, q1, q2, q3, q4, q5, q6⟩ := hq5
          obtain ⟨a0, a1, a2, a3, a4, a5, a6⟩ := ha5
          obtain ⟨b0, b1, b2, b3, b4, b5, b6⟩ := hb5
          clear hu bw5 hr4 hq4 ha4 hb4 hc4
          go_wp2
          go_region
          all_goals
            go_wp2
            refine bodyPost_ret (v := .tuple #[.agg #[.int .i64 3, .int .i64 n, .string u], .agg #[.int .i64 3, .int .i64 n', .string t]]) (by simp [results, Tryd.results24, go_sem, a0, a1, a2, b0, b1, b2, p0, p1, p2, p3, p4, p5, p6, q0, q1, q2, q3, q4, q5, q6, d1, d2, d3, d4, d5, d6, d7, d8]) rfl ?_
            refine pair_mk HU.out HT.out BW5.out ?_
            (go_light; repeat (first | with_reducible exact Below.refl _ _ | (with_reducible refine Below.setCell ?_ ?_ _; rotate_left; (focus first | (simp; done) | (simp; omega) | omega)) | (with_reducible refine Below.alloc ?_ ?_ _; rotate_left; (focus first | (simp; done) | (simp; omega) | omega)) | with_reducible refine Below.drew ?_))
    · have e3' : (r == 3) = false := by simpa using e3
      clear e3
      obtain ⟨p0, p1, p2, p3, p4, p5, p6⟩ := hr3
      obtain ⟨q0, q1, q2, q3, q4, q5, q6⟩ := hq3
      obtain ⟨a0, a1, a2, a3, a4, a5, a6⟩ := ha3
      obtain ⟨b0, b1, b2, b3, b4, b5, b6⟩ := hb3
      go_wp2
      go_region
      all_goals
        go_wp2
        refine bodyPost_ret (v := .tuple #[.agg #[.int .i64 3, .int .i64 n, .string s], .agg #[.int .i64 3, .int .i64 n', .string s']]) (by simp [results, Tryd.results24, go_sem, a0, a1, a2, b0, b1, b2, p0, p1, p2, p3, p4, p5, p6, q0, q1, q2, q3, q4, q5, q6, d1, d2, d3, d4, d5, d6, d7, d8]) rfl ?_
        refine pair_mk (Nat.le_trans HS.out (by decide)) (Nat.le_trans HS'.out (by decide)) BW3.out ?_
        (go_light; repeat (first | with_reducible exact Below.refl _ _ | (with_reducible refine Below.setCell ?_ ?_ _; rotate_left; (focus first | (simp; done) | (simp; omega) | omega)) | (with_reducible refine Below.alloc ?_ ?_ _; rotate_left; (focus first | (simp; done) | (simp; omega) | omega)) | with_reducible refine Below.drew ?_))
  · have t4 : (k == 3) = false ∨ ((k == 3) = true ∧ (k' == 3) = false) := by
      by_cases e1 : k = 3
      · right; simp [e1]; simp [e1] at t3; exact t3
      · left; simpa using e1
    clear t3 hC
    obtain ⟨p0, p1, p2, p3, p4, p5, p6⟩ := hr1
    obtain ⟨q0, q1, q2, q3, q4, q5, q6⟩ := hq1
    rcases t4 with e1 | ⟨e1, e2⟩
    · go_wp2
      go_region
      all_goals
        go_wp2
        refine bodyPost_ret (v := .tuple #[.agg #[.int .i64 k, .int .i64 n, .string s], .agg #[.int .i64 k', .int .i64 n', .string s']]) (by simp [results, Tryd.results24, go_sem, p0, p1, p2, p3, p4, p5, p6, q0, q1, q2, q3, q4, q5, q6, d1, d2, d3, d4, d5, d6, d7, d8]) rfl ?_
        refine pair_mk (Nat.le_trans HS.out (by decide)) (Nat.le_trans HS'.out (by decide)) BW1.out ?_
        (go_light; repeat (first | with_reducible exact Below.refl _ _ | (with_reducible refine Below.setCell ?_ ?_ _; rotate_left; (focus first | (simp; done) | (simp; omega) | omega)) | (with_reducible refine Below.alloc ?_ ?_ _; rotate_left; (focus first | (simp; done) | (simp; omega) | omega)) | with_reducible refine Below.drew ?_))
    · go_wp2
      go_region
      all_goals
        go_wp2
        refine bodyPost_ret (v := .tuple #[.agg #[.int .i64 k, .int .i64 n, .string s], .agg #[.int .i64 k', .int .i64 n', .string s']]) (by simp [results, Tryd.results24, go_sem, p0, p1, p2, p3, p4, p5, p6, q0, q1, q2, q3, q4, q5, q6, d1, d2, d3, d4, d5, d6, d7, d8]) rfl ?_
        refine pair_mk (Nat.le_trans HS.out (by decide)) (Nat.le_trans HS'.out (by decide)) BW1.out ?_
        (go_light; repeat (first | with_reducible exact Below.refl _ _ | (with_reducible refine Below.setCell ?_ ?_ _; rotate_left; (focus first | (simp; done) | (simp; omega) | omega)) | (with_reducible refine Below.alloc ?_ ?_ _; rotate_left; (focus first | (simp; done) | (simp; omega) | omega)) | with_reducible refine Below.drew ?_))
end Go.Proofs.YtbcnfepfmoecjaaDoor.Dr
