import Derived.Test.YtcgnkcehjcednaaDoorJA7
namespace Go.Proofs.YtcgnkcehjcednaaDoor.Dr
open Go.ChangeShapes Go.WideShapes Go.ChangeAt Go.RowKit
open Ar (inD)
set_option linter.unusedVariables false
set_option linter.unusedSimpArgs false
set_option maxRecDepth 100000
theorem info26 : (Tryd.prog.info? 26).map (fun i => (i.zero, i.size, i.bytes)) = some (some (.agg #[.int .i64 0, .int .i64 0, .string ⟨#[]⟩]), 3, 32) := by kernel_rfl
theorem three_new (w : World) (x y z : Value) (t : TypeId) : ∀ j u, [x, y, z][j]? = some u → (w.alloc (.cells #[x, y, z] t)).cell? ((⟨w.heap.size, 0, none⟩ : Addr).add j) = some u := by
  intro j u hj
  match j, hj with
  | 0, hj => simp at hj; subst hj; simp [Addr.add]
  | 1, hj => simp at hj; subst hj; simp [Addr.add]
  | 2, hj => simp at hj; subst hj; simp [Addr.add]
  | (j + 3), hj => simp at hj
theorem three_at (w : World) (m : Nat) (hm : w.heap.size = m) (x y z : Value) (t : TypeId) : ∀ j u, [x, y, z][j]? = some u → (w.alloc (.cells #[x, y, z] t)).cell? ((⟨m, 0, none⟩ : Addr).add j) = some u := by
  subst hm; exact three_new w x y z t
theorem cell_at {w : World} {b e s g n c : Nat} {xs : List Value} {u : Value} {j : Nat} (h : w.ownsRow b e s (.slice (some ⟨g, 0, none⟩) n c) n xs) (hj : xs[j]? = some u) : w.cell? ⟨g, j, none⟩ = some u := by
  have := h.cells rfl j u hj
  by_cases hz : j = 0
  · subst hz; simpa [Addr.add] using this
  · simpa [Addr.add, hz] using this
theorem own_set {w : World} {b e s n : Nat} {v : Value} {xs : List Value} {p : Addr} (h : w.ownsRow b e s v n xs) (hn : ∀ g, v.ownBlock = some g → g ≠ p.block) (u : Value) : (w.setCell p u).ownsRow b e s v n xs := by
  obtain ⟨h1, h2⟩ := h
  refine ⟨h1, ?_⟩
  rcases h2 with a | ⟨g, cap, cur, e1, e2, e3, e4⟩
  · exact .inl a
  · exact .inr ⟨g, cap, cur, e1, e2, (Below.heap_setCell w p u g (hn g (by rw [e1]; rfl))).trans e3, e4⟩
/-- The cells of numbers of one kind. -/
def nums (k : Int) (l : List Int) : List Value := l.flatMap fun x => [.int .i64 k, .int .i64 x, .string ⟨#[]⟩]
theorem nums_snoc (k : Int) (l : List Int) (x : Int) : nums k (l ++ [x]) = nums k l ++ [.int .i64 k, .int .i64 x, .string ⟨#[]⟩] := by simp [nums]
/-- Some numbers are drawn: their row, the cursor, all else as it was. -/
structure NumR (k : Int) (c : Nat) (w1 wr : World) (v : Value) (i : Nat) (acc : List Int) : Prop where
  len : acc.length = i
  ok : ∀ x ∈ acc, inK k x
  own : wr.ownsRow w1.heap.size 26 3 v i (nums k acc)
  cur : IsCur wr c (10 + 10 * (i : Int))
  upd : Upd c w1 wr
theorem NumR.snoc {k : Int} {c : Nat} {w1 wr w5 w6 : World} {v v' : Value} {i : Nat} {acc : List Int} {x A : Int} (h : NumR k c w1 wr v i acc) (hx : inK k x) (ho5 : w5.ownsRow w1.heap.size 26 3 v i (nums k acc)) (hc5 : IsCur w5 c A ∧ A ≤ 10 + 10 * ((i : Int) + 1) ∧ c < w1.heap.size) (hu5 : Upd c w1 w5) (o : Obj)
    (hown : w6.ownsRow w1.heap.size 26 3 v' (i + 1) (nums k acc ++ [.int .i64 k, .int .i64 x, .string ⟨#[]⟩])) (hgrow : (w5.alloc o).grownBy w6 v.ownBlock) : NumR k c w1 w6 v' (i + 1) (acc ++ [x]) := by
  obtain ⟨hc5, hA, hcw⟩ := hc5
  have hlt5 := hc5.lt
  have hz5 := hu5.size
  have hblk : ∀ j, j < w5.heap.size → some j ≠ v.ownBlock → w6.heap[j]? = w5.heap[j]? := fun j hj hn => (hgrow.block j (by simp; omega) hn).trans (Below.heap_alloc _ _ _ hj)
  have hrow : ∀ j, j < w1.heap.size → some j ≠ v.ownBlock := fun j hj e => by have := (ho5.lt j e.symm).1; omega
  have hsz : w5.heap.size ≤ w6.heap.size := by have := hgrow.size; simp at this; omega
  refine ⟨by simp [h.len], fun y hy => ?_, by rw [nums_snoc]; exact hown, ?_, ?_⟩
  · rcases List.mem_append.1 hy with hy | hy
    · exact h.ok y hy
    · simp at hy; subst hy; exact hx
  · exact (hc5.same (fun j hj => hblk j (by omega) (hrow j (by omega))) (by omega)).mono (by omega)
  · exact ⟨hgrow.os.trans hu5.os, hgrow.tape.trans hu5.tape, hgrow.output.trans hu5.output, Nat.le_trans hz5 hsz, fun j hj hn => (hblk j (by omega) (hrow j hj)).trans (hu5.block j hj hn)⟩
/-- Two drawn numbers of one kind, the cursor forgotten. -/
def PairN (w : World) (e : Ending) (w' : World) : Prop := ∃ k a b : Int, inK k a ∧ inK k b ∧ e = .returned (.tuple #[.agg #[.int .i64 k, .int .i64 a, .string ⟨#[]⟩], .agg #[.int .i64 k, .int .i64 b, .string ⟨#[]⟩]]) ∧ Below w.heap.size w w'
theorem pairN_mk {w w1 w2 : World} {k a b : Int} (ha : inK k a) (hb : inK k b) (hu : Below w.heap.size w w1) (h2 : Below w.heap.size w1 w2) : PairN w (.returned (.tuple #[.agg #[.int .i64 k, .int .i64 a, .string ⟨#[]⟩], .agg #[.int .i64 k, .int .i64 b, .string ⟨#[]⟩]])) w2 := ⟨k, a, b, ha, hb, rfl, hu.trans h2⟩
theorem inK_small {k x : Int} (hk : k = 1 ∨ k = 2) (h1 : -1000000 ≤ x) (h2 : x ≤ 1000000) : inK k x := by
  rcases hk with rfl | rfl
  · exact .inl ⟨rfl, by unfold inI; omega⟩
  · exact .inr ⟨rfl, by unfold inD; omega⟩
set_option maxHeartbeats 16000000 in
theorem drawNumbers_any (v0 : Option Addr) (len cap : Nat) (w : World) (hl : len ≤ 1048576) (hb : ∀ j, j < len → ∃ g o b, v0 = some ⟨g, o, none⟩ ∧ g < w.heap.size ∧ w.cell? ⟨g, o + j, none⟩ = some (.int .u8 b) ∧ 0 ≤ b ∧ b < 256) :
    Calls Tryd.prog 32 #[.slice v0 len cap] w fun e w' => PairN w e w' := by
  obtain ⟨i0, hi, hz0, hz1, hz2⟩ := info_parts info26
  have hc0 : IsCur (((w.alloc (.cells #[.int .i64 0, .int .i64 0, .string ⟨#[]⟩] 26)).alloc (.cells #[.int .i64 0, .int .i64 0, .string ⟨#[]⟩] 26)).alloc (.cells #[.slice v0 len cap, .int .i64 0, .int .i64 0, .int .i64 0] 90)) (w.heap.size + 1 + 1) 0 :=
    cur_new _ v0 len cap _ (by simp) hl (fun j hj => by
      obtain ⟨g, o, b, e1, e2, e3, e4, e5⟩ := hb j hj
      exact ⟨g, o, b, e1, by simp; omega, (((below_alloc w _).alloc (by simp) _).cell (p := ⟨g, o + j, none⟩) e2).trans e3, e4, e5⟩)
  have hne : w.heap.size ≠ w.heap.size + 1 + 1 := by omega
  clear hb
  go_enter Tryd.func32, Tryd.ntmps32
  go_wp2_with fail
  refine (pick_any (w.heap.size + 1 + 1) 0 2 _ hc0 (by omega) (by omega) (by omega)).mono ?_
  rintro e w1 ⟨q, q0, q1, rfl, hc1, hu1⟩
  have hr1 : Holds w1 w.heap.size 0 0 ⟨#[]⟩ := ((Holds.new w 0 0 ⟨#[]⟩).below ((below_alloc _ _).alloc (by simp) _) (by simp)).upd hu1 hne
  have hq1 : Holds w1 (w.heap.size + 1) 0 0 ⟨#[]⟩ := by
    have := ((Holds.new (w.alloc (.cells #[.int .i64 0, .int .i64 0, .string ⟨#[]⟩] 26)) 0 0 ⟨#[]⟩).below (below_alloc _ _) (by simp)).upd hu1 (by simp)
    simpa using this
  have BW1 : Hid (Below w.heap.size w w1) := Upd.below (((below_alloc w _).alloc (by simp) _).alloc (by simp; omega) _) hu1 (by omega)
  have hlt := hc1.lt
  clear hu1 hc0
  generalize hC : w.heap.size + 1 + 1 = c at *
  have HC : Hid (w.heap.size + 1 + 1 = c) := hC
  have hk : 1 + q = 1 ∨ 1 + q = 2 := by omega
  obtain ⟨k, hkq⟩ : ∃ k, 1 + q = k := ⟨_, rfl⟩
  rw [hkq] at hk
  have HK : Hid (k = 1 ∨ k = 2) := hk
  have hk1 : 1 ≤ k := by omega
  have hk2 : k ≤ 2 := by omega
  have HR1 : Hid (Holds w1 w.heap.size 0 0 ⟨#[]⟩) := hr1
  have HQ1 : Hid (Holds w1 (w.heap.size + 1) 0 0 ⟨#[]⟩) := hq1
  have HN0 : Hid (NumR k c w1 (w1.alloc (.cells #[] 26)) (.slice (some ⟨w1.heap.size, 0, none⟩) 0 0) 0 []) := ⟨rfl, fun _ h => (by cases h), World.ownsRow_made w1 #[] 0 (Nat.le_refl _) (by unfold maxLen; omega) (by simp), (cur_alloc hc1 _).mono (by omega), upd_alloc c w1 _⟩
  clear hr1 hq1 hk hC
  go_wp2
  go_loopw [6, 7] (fun v vi wr => ∃ (i : Nat) (acc : List Int), vi = .int .i64 i ∧ i ≤ 2 ∧ Hid (NumR k c w1 wr v i acc)) (fun _ vi _ => 2 - (intOf vi).toNat)
  case atStart => exact ⟨0, [], rfl, by omega, HN0⟩
  case round =>
    obtain ⟨i, acc, rfl, hi2, HRI⟩ := hrel
    have hzr : w1.heap.size ≤ wr.heap.size := HRI.out.upd.size
    by_cases hlti : i < 2
    · have hlti' : (i : Int) < 2 := by omega
      go_wp2_with fail
      refine (drawNum_any c (10 + 10 * (i : Int)) k wr HRI.out.cur (by omega) HK.out).mono ?_
      rintro e w2 ⟨x, hx, rfl, hc2, hu2⟩
      have HX : Hid (inK k x) := hx
      have HU2 : Hid (Upd c wr w2) := hu2
      have HC2 : Hid (IsCur w2 c (10 + 10 * (i : Int) + 2)) := hc2
      have hz2r : wr.heap.size ≤ w2.heap.size := hu2.size
      have hne2 : w2.heap.size ≠ c := by omega
      clear hx hu2 hc2
      go_wp2_with fail
      refine (pick_any c (10 + 10 * (i : Int) + 2) 4 _ (HC2.out.below (B := w2.heap.size) (by (go_light; repeat (first | with_reducible exact Below.refl _ _ | (with_reducible refine Below.setCell ?_ ?_ _; rotate_left; (focus first | (simp; done) | (simp; omega) | omega)) | (with_reducible refine Below.alloc ?_ ?_ _; rotate_left; (focus first | (simp; done) | (simp; omega) | omega)) | with_reducible refine Below.drew ?_))) HC2.out.lt) (by omega) (by omega) (by omega)).mono ?_
      rintro e w3 ⟨r, r0, r1, rfl, hc3, hu3⟩
      have hv3 : Holds w3 w2.heap.size k x ⟨#[]⟩ := Holds.upd ⟨by simp [go_sem], by simp [go_sem], by simp [go_sem], by simp [go_sem], by simp [go_sem], by simp [go_sem], by simp⟩ hu3 hne2
      have HW3 : Hid (Upd c w2 w3) := Upd.trans (Upd.of_below (by (go_light; repeat (first | with_reducible exact Below.refl _ _ | (with_reducible refine Below.setCell ?_ ?_ _; rotate_left; (focus first | (simp; done) | (simp; omega) | omega)) | (with_reducible refine Below.alloc ?_ ?_ _; rotate_left; (focus first | (simp; done) | (simp; omega) | omega)) | with_reducible refine Below.drew ?_)))) hu3
      have HU3 : Hid (Upd c w1 w3) := (HRI.out.upd.trans HU2.out).trans HW3.out
      have ho2 := own_upd HRI.out.own HU2.out hlt
      have hnb := fun g hg => (ho2.lt g hg).2
      have ho3 := own_upd ho2 HW3.out hlt
      have hz3 : w2.heap.size ≤ w3.heap.size := HW3.out.size
      clear hu3
      by_cases c0 : r = 0
      · subst c0
        go_wp2_with fail
        refine (pick_any c (10 + 10 * (i : Int) + 2 + 2) 2000 w3 hc3 (by omega) (by omega) (by omega)).mono ?_
        rintro e w4 ⟨p, p0, p1, rfl, hc4, hu4⟩
        have hv4 := hv3.upd hu4 hne2
        have hz4 : w3.heap.size ≤ w4.heap.size := hu4.size
        have ho4 := own_set (p := ⟨w2.heap.size, 1, none⟩) (own_upd ho3 hu4 hlt) (fun g hg => Nat.ne_of_lt (hnb g hg)) (.int .i64 (p - 1000))
        have hc5 : IsCur (w4.setCell ⟨w2.heap.size, 1, none⟩ (.int .i64 (p - 1000))) c (10 + 10 * (i : Int) + 2 + 2 + 2) := hc4.below (B := w2.heap.size) ((Below.refl w2.heap.size w4).setCell (p := ⟨w2.heap.size, 1, none⟩) (Nat.le_refl _) _) (by omega)
        have hu5 : Upd c w1 (w4.setCell ⟨w2.heap.size, 1, none⟩ (.int .i64 (p - 1000))) := (HU3.out.trans hu4).thenB (B := w2.heap.size) ((Below.refl w2.heap.size w4).setCell (p := ⟨w2.heap.size, 1, none⟩) (Nat.le_refl _) _) (by omega)
        have HC5 : Hid (IsCur (w4.setCell ⟨w2.heap.size, 1, none⟩ (.int .i64 (p - 1000))) c (10 + 10 * (i : Int) + 2 + 2 + 2)) := hc5
        have HU5 : Hid (Upd c w1 (w4.setCell ⟨w2.heap.size, 1, none⟩ (.int .i64 (p - 1000)))) := hu5
        have HXX : Hid (inK k (p - 1000)) := inK_small HK.out (by omega) (by omega)
        have hzs : w4.heap.size ≤ (w4.setCell ⟨w2.heap.size, 1, none⟩ (.int .i64 (p - 1000))).heap.size := ((Below.refl w2.heap.size w4).setCell (p := ⟨w2.heap.size, 1, none⟩) (Nat.le_refl _) _).size
        obtain ⟨a0, a1, a2, b0, b1, b2, hz5⟩ := hv4
        clear hv3 ho2 ho3 hc3 hc4 hu4 HU3 HW3 HX hc5 hu5
        go_wp2_with (at_builtin; refine wpList_append_own _ rfl (.tmp 38) (.tmp 40) 105 rfl w1.heap.size 26 i0 (.agg #[.int .i64 0, .int .i64 0, .string ⟨#[]⟩]) 3 32 Tryd.underlying105 hi hz0 hz1 hz2 rfl (by decide) _ _ _ rfl (ho4.alloc _) ⟨w4.heap.size, 0, none⟩ 1 1 [.int .i64 k, .int .i64 (p - 1000), .string ⟨#[]⟩] rfl rfl (three_at _ _ (by simp) _ _ _ _) (by intro u hu; simp at hu; rcases hu with rfl | rfl | rfl <;> rfl) (by unfold maxLen; omega) (by omega) (by simp; omega) ?_; intro v' w6 hown' hgrow _)
        have HR6 : Hid (NumR k c w1 w6 v' (i + 1) (acc ++ [(p - 1000)])) := NumR.snoc HRI.out HXX.out ho4 ⟨HC5.out, by omega, hlt⟩ HU5.out _ hown' hgrow
        clear hown' hgrow
        go_roundw
        case rel => exact ⟨i + 1, acc ++ [(p - 1000)], by go_num, by omega, HR6⟩
        case measure => simp [intOf]; omega
      have e0 : (r == 0) = false := by simpa using c0
      by_cases c1 : r = 1
      · subst c1
        go_wp2_with fail
        refine (pick_any c (10 + 10 * (i : Int) + 2 + 2) 200 w3 hc3 (by omega) (by omega) (by omega)).mono ?_
        rintro e w4 ⟨p, p0, p1, rfl, hc4, hu4⟩
        have hv4 := hv3.upd hu4 hne2
        have hz4 : w3.heap.size ≤ w4.heap.size := hu4.size
        have ho4 := own_set (p := ⟨w2.heap.size, 1, none⟩) (own_upd ho3 hu4 hlt) (fun g hg => Nat.ne_of_lt (hnb g hg)) (.int .i64 (10000 * (p - 100)))
        have hc5 : IsCur (w4.setCell ⟨w2.heap.size, 1, none⟩ (.int .i64 (10000 * (p - 100)))) c (10 + 10 * (i : Int) + 2 + 2 + 2) := hc4.below (B := w2.heap.size) ((Below.refl w2.heap.size w4).setCell (p := ⟨w2.heap.size, 1, none⟩) (Nat.le_refl _) _) (by omega)
        have hu5 : Upd c w1 (w4.setCell ⟨w2.heap.size, 1, none⟩ (.int .i64 (10000 * (p - 100)))) := (HU3.out.trans hu4).thenB (B := w2.heap.size) ((Below.refl w2.heap.size w4).setCell (p := ⟨w2.heap.size, 1, none⟩) (Nat.le_refl _) _) (by omega)
        have HC5 : Hid (IsCur (w4.setCell ⟨w2.heap.size, 1, none⟩ (.int .i64 (10000 * (p - 100)))) c (10 + 10 * (i : Int) + 2 + 2 + 2)) := hc5
        have HU5 : Hid (Upd c w1 (w4.setCell ⟨w2.heap.size, 1, none⟩ (.int .i64 (10000 * (p - 100))))) := hu5
        have HXX : Hid (inK k (10000 * (p - 100))) := inK_small HK.out (by omega) (by omega)
        have hzs : w4.heap.size ≤ (w4.setCell ⟨w2.heap.size, 1, none⟩ (.int .i64 (10000 * (p - 100)))).heap.size := ((Below.refl w2.heap.size w4).setCell (p := ⟨w2.heap.size, 1, none⟩) (Nat.le_refl _) _).size
        obtain ⟨a0, a1, a2, b0, b1, b2, hz5⟩ := hv4
        clear hv3 ho2 ho3 hc3 hc4 hu4 HU3 HW3 HX hc5 hu5
        go_wp2_with (at_builtin; refine wpList_append_own _ rfl (.tmp 38) (.tmp 40) 105 rfl w1.heap.size 26 i0 (.agg #[.int .i64 0, .int .i64 0, .string ⟨#[]⟩]) 3 32 Tryd.underlying105 hi hz0 hz1 hz2 rfl (by decide) _ _ _ rfl (ho4.alloc _) ⟨w4.heap.size, 0, none⟩ 1 1 [.int .i64 k, .int .i64 (10000 * (p - 100)), .string ⟨#[]⟩] rfl rfl (three_at _ _ (by simp) _ _ _ _) (by intro u hu; simp at hu; rcases hu with rfl | rfl | rfl <;> rfl) (by unfold maxLen; omega) (by omega) (by simp; omega) ?_; intro v' w6 hown' hgrow _)
        have HR6 : Hid (NumR k c w1 w6 v' (i + 1) (acc ++ [(10000 * (p - 100))])) := NumR.snoc HRI.out HXX.out ho4 ⟨HC5.out, by omega, hlt⟩ HU5.out _ hown' hgrow
        clear hown' hgrow
        go_roundw
        case rel => exact ⟨i + 1, acc ++ [(10000 * (p - 100))], by go_num, by omega, HR6⟩
        case measure => simp [intOf]; omega
      have e1 : (r == 1) = false := by simpa using c1
      have HC3 : Hid (IsCur w3 c (10 + 10 * (i : Int) + 2 + 2)) := hc3
      obtain ⟨a0, a1, a2, b0, b1, b2, hz5⟩ := hv3
      clear hc3 HW3 ho2 c0 c1
      go_wp2_with (at_builtin; refine wpList_append_own _ rfl (.tmp 38) (.tmp 40) 105 rfl w1.heap.size 26 i0 (.agg #[.int .i64 0, .int .i64 0, .string ⟨#[]⟩]) 3 32 Tryd.underlying105 hi hz0 hz1 hz2 rfl (by decide) _ _ _ rfl (ho3.alloc _) ⟨w3.heap.size, 0, none⟩ 1 1 [.int .i64 k, .int .i64 x, .string ⟨#[]⟩] rfl rfl (three_at _ _ (by simp) _ _ _ _) (by intro u hu; simp at hu; rcases hu with rfl | rfl | rfl <;> rfl) (by unfold maxLen; omega) (by omega) (by simp; omega) ?_; intro v' w6 hown' hgrow _)
      have HR6 : Hid (NumR k c w1 w6 v' (i + 1) (acc ++ [x])) := NumR.snoc HRI.out HX.out ho3 ⟨HC3.out, by omega, hlt⟩ HU3.out _ hown' hgrow
      clear hown' hgrow
      go_roundw
      case rel => exact ⟨i + 1, acc ++ [x], by go_num, by omega, HR6⟩
      case measure => simp [intOf]; omega
    · have hlti' : ¬ (i : Int) < 2 := by omega
      obtain rfl : i = 2 := by omega
      have hown := HRI.out.own
      obtain ⟨x0, x1, hacc⟩ : ∃ x0 x1, acc = [x0, x1] := by
        have := HRI.out.len
        match acc, this with
        | [a, b], _ => exact ⟨a, b, rfl⟩
      subst hacc
      have HX0 : Hid (inK k x0) := HRI.out.ok x0 (by simp)
      have HX1 : Hid (inK k x1) := HRI.out.ok x1 (by simp)
      have HBW : Hid (Below w.heap.size w wr) := Upd.below BW1.out HRI.out.upd (by have := HC.out; omega)
      obtain ⟨p0, p1, p2, p3, p4, p5, p6⟩ := HR1.out.upd HRI.out.upd (by have := HC.out; omega)
      obtain ⟨q0', q1', q2, q3, q4, q5, q6⟩ := HQ1.out.upd HRI.out.upd (by have := HC.out; omega)
      rcases hown.2 with ⟨_, h2⟩ | ⟨g, cap2, cur, hv, hg1, hg2, _⟩
      · omega
      subst hv
      have n0 := cell_at (j := 0) hown rfl
      have n1 := cell_at (j := 1) hown rfl
      have n2 := cell_at (j := 2) hown rfl
      have n3 := cell_at (j := 3) hown rfl
      have n4 := cell_at (j := 4) hown rfl
      have n5 := cell_at (j := 5) hown rfl
      have hgz : g < wr.heap.size := (hown.lt g rfl).2
      have d1 : w.heap.size ≠ g := by have := HC.out; omega
      have d2 : w.heap.size + 1 ≠ g := by have := HC.out; omega
      have d3 : g ≠ w.heap.size := by omega
      have d4 : g ≠ w.heap.size + 1 := by omega
      clear hown HRI hg2
      go_wp2
      go_region
      all_goals
        go_wp2
        refine bodyPost_ret (v := .tuple #[.agg #[.int .i64 k, .int .i64 x0, .string ⟨#[]⟩], .agg #[.int .i64 k, .int .i64 x1, .string ⟨#[]⟩]]) (by simp [results, Tryd.results32, go_sem, p0, p1, p2, p3, p4, p5, p6, q0', q1', q2, q3, q4, q5, q6, n0, n1, n2, n3, n4, n5, d1, d2, d3, d4]) rfl ?_
        refine pairN_mk HX0.out HX1.out HBW.out ?_
        (go_light; repeat (first | with_reducible exact Below.refl _ _ | (with_reducible refine Below.setCell ?_ ?_ _; rotate_left; (focus first | (simp; done) | (simp; omega) | omega)) | (with_reducible refine Below.alloc ?_ ?_ _; rotate_left; (focus first | (simp; done) | (simp; omega) | omega)) | with_reducible refine Below.drew ?_))
end Go.Proofs.YtcgnkcehjcednaaDoor.Dr
