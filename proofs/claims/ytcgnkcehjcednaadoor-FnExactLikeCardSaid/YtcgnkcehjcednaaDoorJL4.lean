import Derived.Test.YtcgnkcehjcednaaDoorJL2
namespace Go.Proofs.YtcgnkcehjcednaaDoor
open Go.ChangeShapes Go.WideShapes Go.ChangeAt Go.RowKit
namespace Lk
set_option linter.unusedVariables false
set_option linter.unusedSimpArgs false
set_option maxRecDepth 100000
theorem info3' : (Tryd.prog.info? 3).map (fun i => (i.zero, i.size, i.bytes)) = some (some (.int .i64 0), 1, 8) := by kernel_rfl
theorem row_cell' {w : World} {b e s g n c : Nat} {xs : List Value} {u : Value} {j : Nat} (h : w.ownsRow b e s (.slice (some ⟨g, 0, none⟩) n c) n xs) (hj : xs[j]? = some u) : w.cell? ⟨g, j, none⟩ = some u := by
  have := h.cells rfl j u hj
  by_cases hz : j = 0
  · subst hz; simpa [Addr.add] using this
  · simpa [Addr.add, hz] using this
/-- Numbers that lie readable. -/
def RdI (w : World) (v : Value) (t : List Int) : Prop :=
  ∃ (a : Option Addr) (cap : Nat), v = .slice a t.length cap ∧ ∀ i (h : i < t.length), ∃ g, a = some ⟨g, 0, none⟩ ∧ g < w.heap.size ∧ w.cell? ⟨g, i, none⟩ = some (.int .i64 t[i])
def ch64 (l : List Int) : List Value := l.map (Value.int .i64)
theorem RdI.of_own {w : World} {b : Nat} {v : Value} {t : List Int} (h : w.ownsRow b 3 1 v t.length (ch64 t)) : RdI w v t := by
  have h0 := h
  rcases h.2 with ⟨rfl, e⟩ | ⟨g, cap, cur, rfl, _, hg, _⟩
  · exact ⟨none, 0, by rw [e], fun i hi => by omega⟩
  · refine ⟨_, cap, rfl, fun i hi => ⟨g, rfl, (Array.getElem?_eq_some_iff.1 hg).1, row_cell' h0 ?_⟩⟩
    simp [ch64, hi]
theorem RdI.below {w w' : World} {v : Value} {t : List Int} {B : Nat} (h : RdI w v t) (hb : Below B w w') (hB : w.heap.size ≤ B) : RdI w' v t := by
  obtain ⟨a, cap, rfl, hc⟩ := h
  refine ⟨a, cap, rfl, fun i hi => ?_⟩
  obtain ⟨g, e, hg, hx⟩ := hc i hi
  exact ⟨g, e, Nat.lt_of_lt_of_le hg hb.size, (hb.cell (p := ⟨g, i, none⟩) (Nat.lt_of_lt_of_le hg hB)).trans hx⟩
theorem prt_step {cs acc all : List Int} {k : Nat} (hk : k < cs.length) (h : acc ++ prt false (cs.drop k) = all) :
    (cs[k] = 37 → (acc ++ [-1]) ++ prt false (cs.drop (k + 1)) = all) ∧ (cs[k] = 95 → (acc ++ [-2]) ++ prt false (cs.drop (k + 1)) = all) ∧
    (∀ (h1 : k + 1 < cs.length), cs[k] = 92 → (acc ++ [cs[k + 1]]) ++ prt false (cs.drop (k + 2)) = all) ∧
    (cs[k] ≠ 37 → cs[k] ≠ 95 → (cs[k] = 92 → ¬ k + 1 < cs.length) → (acc ++ [cs[k]]) ++ prt false (cs.drop (k + 1)) = all) := by
  rw [List.drop_eq_getElem_cons hk] at h
  refine ⟨fun e => ?_, fun e => ?_, fun h1 e => ?_, fun e1 e2 e3 => ?_⟩
  · rw [e, prt_many] at h; rw [← h]; simp
  · rw [e, prt_any] at h; rw [← h]; simp
  · rw [e, List.drop_eq_getElem_cons h1, prt_esc] at h; rw [← h]; simp
  · by_cases e : cs[k] = 92
    · have hn : cs.drop (k + 1) = [] := List.drop_eq_nil_of_le (by have := e3 e; omega)
      rw [hn, e, prt_end] at h
      rw [hn, e, ← h]; simp [prt_nil]
    · rw [prt_else _ e1 e2 e] at h; rw [← h]; simp
theorem grown_row {w wr w1 : World} {e size n m : Nat} {v v' : Value} {xs ys : List Value} (hown : wr.ownsRow w.heap.size e size v n xs) (hbel : Below w.heap.size w wr) (o : Obj) (hgrow : (wr.alloc o).grownBy w1 v.ownBlock) : Below w.heap.size w w1 := by
  have hz := hbel.size
  exact (hbel.alloc hz o).grown hgrow (by simp; omega) (fun j hj => (hown.lt j hj).1)
def PatR (cs all : List Int) (w : World) (v vi : Value) (wr : World) : Prop :=
  ∃ (k : Nat) (acc : List Int), vi = .int .i64 k ∧ k ≤ cs.length ∧ acc.length ≤ k ∧ Hid (acc ++ prt false (cs.drop k) = all) ∧ wr.ownsRow w.heap.size 3 1 v acc.length (ch64 acc) ∧ Below w.heap.size w wr
set_option maxHeartbeats 8000000 in
theorem pattern_any (cs : List Int) (v0 : Value) (w : World) (hv : RdI w v0 cs) (hl : cs.length ≤ 1048576) :
    Calls Tryd.prog 36 #[v0] w fun e w' => ∃ v, e = .returned v ∧ w'.ownsRow w.heap.size 3 1 v (prt false cs).length (ch64 (prt false cs)) ∧ Below w.heap.size w w' := by
  obtain ⟨i0, hi, hz0, hz1, hz2⟩ := info_parts info3'
  obtain ⟨ta, tc, rfl, HT⟩ := hv
  have HT' : Hid (∀ i (h : i < cs.length), ∃ g, ta = some ⟨g, 0, none⟩ ∧ g < w.heap.size ∧ w.cell? ⟨g, i, none⟩ = some (.int .i64 cs[i])) := HT
  clear HT
  obtain ⟨all, hall⟩ : ∃ ps, prt false cs = ps := ⟨_, rfl⟩
  have HA : Hid (prt false cs = all) := hall
  rw [hall]
  clear hall
  go_enter Tryd.func36, Tryd.ntmps36
  go_wp2
  go_loopw [3, 4] (fun v vi wr => PatR cs all w v vi wr) (fun _ vi _ => cs.length - (intOf vi).toNat)
  case atStart => exact ⟨0, [], rfl, by omega, by simp, (by rw [← HA.out]; rfl : [] ++ prt false (cs.drop 0) = all), World.ownsRow_made w #[] 0 (Nat.le_refl _) (by unfold maxLen; omega) (by simp), (Below.refl _ _).alloc (Nat.le_refl _) _⟩
  case round =>
    obtain ⟨k, acc, rfl, hk, hacc, HM, hown, hbel⟩ := hrel
    have hz := hbel.size
    by_cases hlt : k < cs.length
    · have hlti : (k : Int) < cs.length := by omega
      obtain ⟨g, rfl, hg, hx⟩ := HT'.out k hlt
      have ct : wr.cell? ⟨g, k, none⟩ = some (.int .i64 cs[k]) := (hbel.cell (p := ⟨g, k, none⟩) hg).trans hx
      obtain ⟨S1, S2, S3, S4⟩ := prt_step hlt HM.out
      by_cases h37 : cs[k] = 37
      · have HS : Hid ((acc ++ [-1]) ++ prt false (cs.drop (k + 1)) = all) := S1 h37
        rw [h37] at ct
        clear S1 S2 S3 S4 HM h37
        go_wp2_with (at_builtin; refine wpList_append_own _ rfl (.tmp 25) (.tmp 26) 58 rfl w.heap.size 3 i0 (.int .i64 0) 1 8 Tryd.underlying58 hi hz0 hz1 hz2 rfl (by decide) _ _ _ rfl (hown.alloc _) ⟨wr.heap.size, 0, none⟩ 1 1 [.int .i64 (-1)] rfl rfl (cell_one_new _ _ _) (by intro u hu; simp at hu; subst hu; rfl) (by unfold maxLen; omega) (by omega) (by simp; omega) ?_; intro v' w1 hown' hgrow _)
        have hb1 := grown_row (ys := []) (m := 0) (v' := .bool true) hown hbel _ hgrow
        clear hgrow hown hbel
        go_roundw
        case rel => exact ⟨k + 1, acc ++ [-1], by go_num, by omega, by simp; omega, HS, by simpa [ch64] using hown', hb1⟩
        case measure => simp [intOf]; omega
      have e37 : (cs[k] == 37) = false := by simpa using h37
      by_cases h95 : cs[k] = 95
      · have HS : Hid ((acc ++ [-2]) ++ prt false (cs.drop (k + 1)) = all) := S2 h95
        rw [h95] at ct
        clear S1 S2 S3 S4 HM h95 h37 e37
        go_wp2_with (at_builtin; refine wpList_append_own _ rfl (.tmp 34) (.tmp 35) 58 rfl w.heap.size 3 i0 (.int .i64 0) 1 8 Tryd.underlying58 hi hz0 hz1 hz2 rfl (by decide) _ _ _ rfl (hown.alloc _) ⟨wr.heap.size, 0, none⟩ 1 1 [.int .i64 (-2)] rfl rfl (cell_one_new _ _ _) (by intro u hu; simp at hu; subst hu; rfl) (by unfold maxLen; omega) (by omega) (by simp; omega) ?_; intro v' w1 hown' hgrow _)
        have hb1 := grown_row (ys := []) (m := 0) (v' := .bool true) hown hbel _ hgrow
        clear hgrow hown hbel
        go_roundw
        case rel => exact ⟨k + 1, acc ++ [-2], by go_num, by omega, by simp; omega, HS, by simpa [ch64] using hown', hb1⟩
        case measure => simp [intOf]; omega
      have e95 : (cs[k] == 95) = false := by simpa using h95
      by_cases h92 : cs[k] = 92
      · by_cases hk1 : k + 1 < cs.length
        · have hki : (k : Int) + 1 < cs.length := by omega
          obtain ⟨g', e', hg', hx'⟩ := HT'.out (k + 1) hk1
          obtain rfl : g = g' := by simpa using e'
          have ct1 : wr.cell? ⟨g, k + 1, none⟩ = some (.int .i64 cs[k + 1]) := (hbel.cell (p := ⟨g, k + 1, none⟩) hg').trans hx'
          have HS : Hid ((acc ++ [cs[k + 1]]) ++ prt false (cs.drop (k + 2)) = all) := S3 hk1 h92
          rw [h92] at ct
          clear S1 S2 S3 S4 HM h95 h37 e37 e95 h92 e' hx' hx
          generalize cs[k + 1] = d at *
          go_wp2_with (at_builtin; refine wpList_append_own _ rfl (.tmp 52) (.tmp 57) 58 rfl w.heap.size 3 i0 (.int .i64 0) 1 8 Tryd.underlying58 hi hz0 hz1 hz2 rfl (by decide) _ _ _ rfl (hown.alloc _) ⟨wr.heap.size, 0, none⟩ 1 1 [.int .i64 d] rfl rfl (cell_one_new _ _ _) (by intro u hu; simp at hu; subst hu; rfl) (by unfold maxLen; omega) (by omega) (by simp; omega) ?_; intro v' w1 hown' hgrow _)
          have hb1 := grown_row (ys := []) (m := 0) (v' := .bool true) hown hbel _ hgrow
          clear hgrow hown hbel
          go_roundw
          case rel => exact ⟨k + 2, acc ++ [d], by go_num, by omega, by simp; omega, HS, by simpa [ch64] using hown', hb1⟩
          case measure => simp [intOf]; omega
        · have hki : ¬ (k : Int) + 1 < cs.length := by omega
          have HS : Hid ((acc ++ [cs[k]]) ++ prt false (cs.drop (k + 1)) = all) := S4 h37 h95 (fun _ => hk1)
          rw [h92] at ct HS
          clear S1 S2 S3 S4 HM h95 h37 e37 e95 h92 hx
          go_wp2_with (at_builtin; refine wpList_append_own _ rfl (.tmp 12) (.tmp 17) 58 rfl w.heap.size 3 i0 (.int .i64 0) 1 8 Tryd.underlying58 hi hz0 hz1 hz2 rfl (by decide) _ _ _ rfl (hown.alloc _) ⟨wr.heap.size, 0, none⟩ 1 1 [.int .i64 92] rfl rfl (cell_one_new _ _ _) (by intro u hu; simp at hu; subst hu; rfl) (by unfold maxLen; omega) (by omega) (by simp; omega) ?_; intro v' w1 hown' hgrow _)
          have hb1 := grown_row (ys := []) (m := 0) (v' := .bool true) hown hbel _ hgrow
          clear hgrow hown hbel
          go_roundw
          case rel => exact ⟨k + 1, acc ++ [92], by go_num, by omega, by simp; omega, HS, by simpa [ch64] using hown', hb1⟩
          case measure => simp [intOf]; omega
      · have e92 : (cs[k] == 92) = false := by simpa using h92
        have HS : Hid ((acc ++ [cs[k]]) ++ prt false (cs.drop (k + 1)) = all) := S4 h37 h95 (fun h => absurd h h92)
        clear S1 S2 S3 S4 HM h95 h37 h92 hx
        generalize cs[k] = d at *
        go_wp2_with (at_builtin; refine wpList_append_own _ rfl (.tmp 12) (.tmp 17) 58 rfl w.heap.size 3 i0 (.int .i64 0) 1 8 Tryd.underlying58 hi hz0 hz1 hz2 rfl (by decide) _ _ _ rfl (hown.alloc _) ⟨wr.heap.size, 0, none⟩ 1 1 [.int .i64 d] rfl rfl (cell_one_new _ _ _) (by intro u hu; simp at hu; subst hu; rfl) (by unfold maxLen; omega) (by omega) (by simp; omega) ?_; intro v' w1 hown' hgrow _)
        have hb1 := grown_row (ys := []) (m := 0) (v' := .bool true) hown hbel _ hgrow
        clear hgrow hown hbel
        go_roundw
        case rel => exact ⟨k + 1, acc ++ [d], by go_num, by omega, by simp; omega, HS, by simpa [ch64] using hown', hb1⟩
        case measure => simp [intOf]; omega
    · have hlti : ¬ (k : Int) < cs.length := by omega
      have HE : Hid (acc = all) := (by have := HM.out; rw [List.drop_eq_nil_of_le (by omega), prt_nil] at this; simpa using this : acc = all)
      clear HM
      go_wp2
      go_ret
      rw [← HE.out]
      exact ⟨_, rfl, hown, hbel⟩
end Lk
end Go.Proofs.YtcgnkcehjcednaaDoor
