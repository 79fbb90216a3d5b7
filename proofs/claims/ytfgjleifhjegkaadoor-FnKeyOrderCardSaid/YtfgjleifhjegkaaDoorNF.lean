import Derived.Test.YtfgjleifhjegkaaDoorNE
import Derived.Test.YtfgjleifhjegkaaDoorND
import Derived.Test.YtfgjleifhjegkaaDoorIVqr
import Derived.Test.YtfgjleifhjegkaaDoorIWqr
import Derived.Deep.QuietTactic
import Derived.BigQuiet
namespace Go.Proofs.YtfgjleifhjegkaaDoor
open Go.ChangeShapes Go.WideShapes Go.ChangeAt Go.RowKit
set_option linter.unusedVariables false
set_option linter.unusedSimpArgs false
set_option maxRecDepth 100000
theorem undrewN {n : Nat} {W w' : World} (hb : Below (W.drewN n).heap.size (W.drewN n) w') : Below W.heap.size W w' := (below_drewNt W n).trans (hb.mono (below_drewNt W n).size)
theorem rs_one (w : World) (t : VA) : RS 3 CV 0 (w.alloc (.cells #[.int .i64 t.k, .int .i64 t.n, .string t.s] 39)) (.slice (some ⟨w.heap.size, 0, none⟩) [t].length 1) [t] := by
  refine ⟨_, _, rfl, fun _ => ⟨w.heap.size, 0, rfl, Nat.zero_le _, by simp, fun i hi => ?_⟩⟩
  have : i = 0 := by simpa using hi
  subst this
  refine ⟨[.int .i64 t.k, .int .i64 t.n, .string t.s], rfl, fun j hj => ?_⟩
  have h := (blk_new w [.int .i64 t.k, .int .i64 t.n, .string t.s] 39 j (by simpa using hj)).1
  rw [show 0 + 0 * 3 + j = j by omega]
  exact h
theorem rs_two (w : World) (t u : VA) : RS 3 CV 0 (w.alloc (.cells #[.int .i64 t.k, .int .i64 t.n, .string t.s, .int .i64 u.k, .int .i64 u.n, .string u.s] 39)) (.slice (some ⟨w.heap.size, 0, none⟩) [t, u].length 2) [t, u] := by
  refine ⟨_, _, rfl, fun _ => ⟨w.heap.size, 0, rfl, Nat.zero_le _, by simp, fun i hi => ?_⟩⟩
  have hb := blk_new w [.int .i64 t.k, .int .i64 t.n, .string t.s, .int .i64 u.k, .int .i64 u.n, .string u.s] 39
  have : i = 0 ∨ i = 1 := by simp at hi; omega
  rcases this with rfl | rfl
  · refine ⟨[.int .i64 t.k, .int .i64 t.n, .string t.s], rfl, fun j hj => ?_⟩
    have h := (hb j (by simp; omega)).1
    rw [show 0 + 0 * 3 + j = j by omega, h]
    have : j = 0 ∨ j = 1 ∨ j = 2 := by omega
    rcases this with rfl | rfl | rfl <;> rfl
  · refine ⟨[.int .i64 u.k, .int .i64 u.n, .string u.s], rfl, fun j hj => ?_⟩
    have h := (hb (3 + j) (by simp; omega)).1
    rw [show 0 + 1 * 3 + j = 3 + j by omega, h]
    have : j = 0 ∨ j = 1 ∨ j = 2 := by omega
    rcases this with rfl | rfl | rfl <;> rfl
theorem vals_one {t : VA} (h : vok t.k t.n t.s = true) : valsB [t] = true := by simp [valsB, h]
theorem vals_two {t u : VA} (h : vok t.k t.n t.s = true) (g : vok u.k u.n u.s = true) : valsB [t, u] = true := by simp [valsB, h, g]
theorem vok_small {k n : Int} {s : ByteArray} (h : vok k n s = true) (hs : s.size ≤ 800) : (rowP k n s).length ≤ 810 := by
  unfold rowP
  split
  · have := varF_len 9 (foldN n).toNat; omega
  split
  · have := varF_len 9 s.size; rw [List.length_append, strI_len]; omega
  split <;> simp
theorem row_two {t u : VA} (h : vok t.k t.n t.s = true) (g : vok u.k u.n u.s = true) (h8 : t.s.size ≤ 800) (g8 : u.s.size ≤ 800) : (rowL [t, u]).length ≤ 4000 := by
  have h1 := vok_small h h8
  have h2 := vok_small g g8
  simp [rowL]
  omega
theorem keyL_one (t : VA) : keyL [t] = keyP t.k t.n t.s := by simp [keyL]
theorem keyL_two (t u : VA) : keyL [t, u] = keyP t.k t.n t.s ++ keyP u.k u.n u.s := by simp [keyL]
theorem go_one {t : VA} (h : -9223372036854775808 ≤ t.n ∧ t.n ≤ 9223372036854775807) : GoV [t] := fun x hx => by
  rw [List.mem_singleton.1 hx]; exact h
theorem go_two {t u : VA} (h : -9223372036854775808 ≤ t.n ∧ t.n ≤ 9223372036854775807) (g : -9223372036854775808 ≤ u.n ∧ u.n ≤ 9223372036854775807) : GoV [t, u] := fun x hx => by
  rcases List.mem_cons.1 hx with rfl | hx
  · exact h
  · rw [List.mem_singleton.1 hx]; exact g
theorem bv_one {t : VA} (h : t.s.size ≤ 800) : BVS 1048576 [t] := ⟨by simp, fun x hx => by rw [List.mem_singleton.1 hx]; unfold BV; omega⟩
theorem bv_two {t u : VA} (h : t.s.size ≤ 800) (g : u.s.size ≤ 800) : BVS 1048576 [t, u] := ⟨by simp, fun x hx => by
  unfold BV
  rcases List.mem_cons.1 hx with rfl | hx
  · omega
  · rw [List.mem_singleton.1 hx]; omega⟩
/-- Two values in a list that can be read. -/
theorem two_cells {b : Nat} {w : World} {v : Value} {t u : VA} (h : RSW 3 CV b w v [t, u]) : ∃ g o cap, v = .slice (some ⟨g, o, none⟩) 2 cap ∧ b ≤ g ∧ g < w.heap.size ∧ (w.cell? ⟨g, o, none⟩ = some (.int .i64 t.k) ∧ w.cell? ⟨g, o + 1, none⟩ = some (.int .i64 t.n) ∧ w.cell? ⟨g, o + 2, none⟩ = some (.string t.s)) ∧ (w.cell? ⟨g, o + 3, none⟩ = some (.int .i64 u.k) ∧ w.cell? ⟨g, o + 4, none⟩ = some (.int .i64 u.n) ∧ w.cell? ⟨g, o + 5, none⟩ = some (.string u.s)) := by
  obtain ⟨a, cap, rfl, h2⟩ := h
  obtain ⟨g, o, rfl, hB, hg, hc⟩ := h2 (by simp)
  obtain ⟨cs, x, y⟩ := hc 0 (by simp)
  obtain ⟨ds, x', y'⟩ := hc 1 (by simp)
  unfold CV at x x'
  subst x x'
  refine ⟨g, o, cap, rfl, hB, hg, ⟨?_, ?_, ?_⟩, ?_, ?_, ?_⟩
  · simpa using (y 0 (by omega)).1
  · simpa using (y 1 (by omega)).1
  · simpa using (y 2 (by omega)).1
  · simpa using (y' 0 (by omega)).1
  · simpa using (y' 1 (by omega)).1
  · simpa using (y' 2 (by omega)).1
theorem rs_bytes {w : World} {a : Option Addr} {cap : Nat} {xs : List Int} (h : RS 1 CY 0 w (.slice a xs.length cap) xs) (hb : Byt xs) : ∀ j, j < xs.length → ∃ g o b, a = some ⟨g, o, none⟩ ∧ g < w.heap.size ∧ w.cell? ⟨g, o + j, none⟩ = some (.int .u8 b) ∧ 0 ≤ b ∧ b < 256 := fun j hj => by
  obtain ⟨a', cap', he, h2⟩ := h
  simp only [Value.slice.injEq] at he
  obtain ⟨rfl, _, rfl⟩ := he
  obtain ⟨g, o, rfl, _, hg, hc⟩ := h2 (by omega)
  obtain ⟨cs, x, y⟩ := hc j hj
  unfold CY at x
  subst x
  have := y 0 (by omega)
  rw [Nat.mul_one, Nat.add_zero] at this
  have hx := hb xs[j] (List.getElem_mem hj)
  exact ⟨g, o, xs[j], rfl, hg, this, hx.1, by omega⟩
end Go.Proofs.YtfgjleifhjegkaaDoor
namespace Go.Proofs.YtfgjleifhjegkaaDoor
open Go.ChangeShapes Go.WideShapes Go.ChangeAt Go.RowKit
set_option linter.unusedVariables false
set_option linter.unusedSimpArgs false
set_option maxRecDepth 100000
set_option maxHeartbeats 32000000 in
theorem keyOrder_law (la : Option Addr) (lc : Nat) (xs : List Int) (w : World) (hmx : xs.length ≤ maxLen) (hby : Byt xs) (hT : Tabs w) (hv : RS 1 CY 0 w (.slice la xs.length lc) xs) :
    Calls Tryd.prog 7 #[.slice la xs.length lc] w fun e w' => e = .returned (.bool true) ∧ Below w.heap.size w w' := by
  unfold maxLen at hmx
  by_cases hbig : (1048576 : Int) < xs.length
  · clear hv hT
    go_enter Tryd.func7, Tryd.ntmps7
    go_wp2
    go_ret
    exact ⟨rfl, Below.refl _ _⟩
  have hdc := Dr.drawCompare_any la xs.length lc w (by omega) (rs_bytes hv hby)
  have HT := hid hT
  clear hby hT hv hmx
  go_enter Tryd.func7, Tryd.ntmps7
  go_wp2_with (go_at_call 25; fail)
  refine hdc.mono ?_
  rintro e w1 ⟨k, n, s, k', n', s', hs, hs', hn, hn', rfl, hb1⟩
  obtain ⟨w2, hw2⟩ : ∃ z, z = (w1.alloc (.cells #[.int .i64 k, .int .i64 n, .string s] 39)).alloc (.cells #[.int .i64 k', .int .i64 n', .string s'] 39) := ⟨_, rfl⟩
  have hs2 : w2.heap.size = w1.heap.size + 1 + 1 := by rw [hw2]; simp
  have HA : Hid (Blk w2 w1.heap.size [.int .i64 k, .int .i64 n, .string s]) := (by rw [hw2]; exact (blk_new w1 [.int .i64 k, .int .i64 n, .string s] 39).below (below_alloc _ _) (by simp) : Blk w2 w1.heap.size [.int .i64 k, .int .i64 n, .string s])
  have HB : Hid (Blk w2 (w1.heap.size + 1) [.int .i64 k', .int .i64 n', .string s']) := (by
    rw [hw2]
    have := blk_new (w1.alloc (.cells #[.int .i64 k, .int .i64 n, .string s] 39)) [.int .i64 k', .int .i64 n', .string s'] 39
    simpa using this : Blk w2 (w1.heap.size + 1) [.int .i64 k', .int .i64 n', .string s'])
  have bw2 : Below w.heap.size w w2 := by rw [hw2]; exact (hb1.alloc hb1.size _).alloc (by have := hb1.size; simp; omega) _
  have HCEL : Hid (∀ W, Below w2.heap.size w2 W → W.cell? ⟨w1.heap.size, 0, none⟩ = some (.int .i64 k) ∧ W.cell? ⟨w1.heap.size, 1, none⟩ = some (.int .i64 n) ∧ W.cell? ⟨w1.heap.size, 2, none⟩ = some (.string s) ∧ W.cell? ⟨w1.heap.size + 1, 0, none⟩ = some (.int .i64 k') ∧ W.cell? ⟨w1.heap.size + 1, 1, none⟩ = some (.int .i64 n') ∧ W.cell? ⟨w1.heap.size + 1, 2, none⟩ = some (.string s')) := (fun W hW => by
    have h1 := HA.out.below hW (by omega)
    have h2 := HB.out.below hW (by omega)
    exact ⟨(h1 0 (by simp)).1, (h1 1 (by simp)).1, (h1 2 (by simp)).1, (h2 0 (by simp)).1, (h2 1 (by simp)).1, (h2 2 (by simp)).1⟩ : ∀ W, Below w2.heap.size w2 W → W.cell? ⟨w1.heap.size, 0, none⟩ = some (.int .i64 k) ∧ W.cell? ⟨w1.heap.size, 1, none⟩ = some (.int .i64 n) ∧ W.cell? ⟨w1.heap.size, 2, none⟩ = some (.string s) ∧ W.cell? ⟨w1.heap.size + 1, 0, none⟩ = some (.int .i64 k') ∧ W.cell? ⟨w1.heap.size + 1, 1, none⟩ = some (.int .i64 n') ∧ W.cell? ⟨w1.heap.size + 1, 2, none⟩ = some (.string s'))
  have bb2 : Below w2.heap.size w2 w2 := Below.refl _ _
  have hz2 : w1.heap.size + 1 < w2.heap.size ∧ w2.heap.size ≤ w2.heap.size := by omega
  have HTW : Hid (∀ W, Below w2.heap.size w2 W → Tabs W) := (fun W hW => tabs_below HT.out (bw2.trans (hW.mono bw2.size)) : ∀ W, Below w2.heap.size w2 W → Tabs W)
  have HWW : Hid (∀ W, Below w2.heap.size w2 W → Below w.heap.size w W) := (fun W hW => bw2.trans (hW.mono bw2.size) : ∀ W, Below w2.heap.size w2 W → Below w.heap.size w W)
  have HS : Hid (s.size ≤ 800) := hs
  have HS' : Hid (s'.size ≤ 800) := hs'
  have HN : Hid (-9223372036854775808 ≤ n ∧ n ≤ 9223372036854775807) := hn
  have HN' : Hid (-9223372036854775808 ≤ n' ∧ n' ≤ 9223372036854775807) := hn'
  have hvs1 := vok_spec k n s w2 (by omega)
  have hc0 := HCEL.out w2 bb2
  clear hdc HA HB bw2 HT
  go_wp2_with (go_at_call 26; fail)
  rw [← hw2]
  clear hw2 hn hn' hs2
  obtain ⟨a0, a1, a2, b0, b1, b2⟩ := hc0
  cases hv1 : vok k n s
  · rw [hv1] at hvs1
    clear hv1
    refine hvs1.mono ?_
    rintro e w3 ⟨rfl, hb3⟩
    have bw3 := HWW.out w3 hb3
    clear hb3 hvs1
    go_wp2
    go_ret
    exact ⟨rfl, bw3⟩
  rw [hv1] at hvs1
  cases hv2 : vok k' n' s'
  · have HV2 : Hid (vok k' n' s' = false) := hv2
    clear hv1 hv2
    refine hvs1.mono ?_
    rintro e w3 ⟨rfl, hb3⟩
    clear a0 a1 a2 b0 b1 b2
    obtain ⟨a0, a1, a2, b0, b1, b2⟩ := HCEL.out w3 hb3
    have hvs2 := vok_spec k' n' s' w3 (by omega)
    rw [HV2.out] at hvs2
    have BB3 := hid hb3
    clear hb3 hvs1
    go_wp2_with (go_at_call 26; fail)
    refine hvs2.mono ?_
    rintro e w4 ⟨rfl, hb4⟩
    have bw4 := HWW.out w4 (BB3.out.trans (hb4.mono BB3.out.size))
    clear hb4 hvs2
    go_wp2
    go_ret
    exact ⟨rfl, bw4⟩
  have HV1 : Hid (vok k n s = true) := hv1
  have HV2 : Hid (vok k' n' s' = true) := hv2
  have HRL : Hid ((rowL [⟨k, n, s⟩, ⟨k', n', s'⟩]).length ≤ 4000) := row_two (t := ⟨k, n, s⟩) (u := ⟨k', n', s'⟩) hv1 hv2 hs hs'
  have HRVC : Hid (RvC (rowL [⟨k, n, s⟩, ⟨k', n', s'⟩]) [⟨k, n, s⟩, ⟨k', n', s'⟩] 0) := .inl ⟨vals_two (t := ⟨k, n, s⟩) (u := ⟨k', n', s'⟩) hv1 hv2, go_two HN.out HN'.out, HRL.out, rfl, rfl⟩
  have HRB : Hid (Byt (rowL [⟨k, n, s⟩, ⟨k', n', s'⟩])) := rowL_byt (vals_two (t := ⟨k, n, s⟩) (u := ⟨k', n', s'⟩) hv1 hv2) (go_two HN.out HN'.out) HRL.out
  have HROW : Hid (∀ l c, BytC rowL 4000 [⟨k, n, s⟩, ⟨k', n', s'⟩] l c → l = rowL [⟨k, n, s⟩, ⟨k', n', s'⟩] ∧ c = 0) := (fun l c hc => by
    rcases hc with ⟨h, _, _⟩ | ⟨_, h, _, _⟩ | ⟨_, _, h, h'⟩
    · rw [vals_two (t := ⟨k, n, s⟩) (u := ⟨k', n', s'⟩) HV1.out HV2.out] at h; cases h
    · have := HRL.out; omega
    · exact ⟨h, h'⟩ : ∀ l c, BytC rowL 4000 [⟨k, n, s⟩, ⟨k', n', s'⟩] l c → l = rowL [⟨k, n, s⟩, ⟨k', n', s'⟩] ∧ c = 0)
  by_cases hk : k = k' ∨ k = 0 ∨ k' = 0
  rotate_left
  · have e1 : (k != k') = true := by simp; omega
    have e2 : (k != 0) = true := by simp; omega
    have e3 : (k' != 0) = true := by simp; omega
    clear hv1 hv2 hk HROW HRVC HRB HRL
    refine hvs1.mono ?_
    rintro e w3 ⟨rfl, hb3⟩
    clear a0 a1 a2 b0 b1 b2
    obtain ⟨a0, a1, a2, b0, b1, b2⟩ := HCEL.out w3 hb3
    have hvs2 := vok_spec k' n' s' w3 (by omega)
    rw [HV2.out] at hvs2
    have BB3 := hid hb3
    clear hb3 hvs1
    go_wp2_with (go_at_call 26; fail)
    refine hvs2.mono ?_
    rintro e w4 ⟨rfl, hb4⟩
    have bb4 := BB3.out.trans (hb4.mono BB3.out.size)
    have bw4 := HWW.out w4 bb4
    clear a0 a1 a2 b0 b1 b2
    obtain ⟨a0, a1, a2, b0, b1, b2⟩ := HCEL.out w4 bb4
    clear hb4 hvs2
    go_wp2
    go_ret
    exact ⟨rfl, bw4⟩
  have HK : Hid (k = k' ∨ k = 0 ∨ k' = 0) := hk
  have hbs : ((k != k') = false) ∨ ((k != k') = true ∧ (k != 0) = false) ∨ ((k != k') = true ∧ (k != 0) = true ∧ (k' != 0) = false) := by
    by_cases h1 : k = k'
    · left; simpa using h1
    · have h1' : (k != k') = true := by simpa using h1
      by_cases h2 : k = 0
      · right; left; exact ⟨h1', by simpa using h2⟩
      · right; right; exact ⟨h1', by simpa using h2, by simp; omega⟩
  clear hv1 hv2 hk
  rcases hbs with e1 | ⟨e1, e2⟩ | ⟨e1, e2, e3⟩
  all_goals
    refine hvs1.mono ?_
    rintro e w3 ⟨rfl, hb3⟩
    have bb3 : Below w2.heap.size w2 w3 := bb2.trans (hb3.mono (by have := hz2.2; first | omega | (simp; omega)))
    have hz3 : w1.heap.size + 1 < w3.heap.size ∧ w2.heap.size ≤ w3.heap.size := by have := bb3.size; omega
    clear hb3 hvs1
    clear a0 a1 a2 b0 b1 b2
    obtain ⟨a0, a1, a2, b0, b1, b2⟩ := HCEL.out w3 bb3
    have hvs2 := vok_spec k' n' s' w3 (by omega)
    rw [HV2.out] at hvs2
    go_wp2_with (go_at_call 26; fail)
    refine hvs2.mono ?_
    rintro e w4 ⟨rfl, hb4⟩
    have bb4 : Below w2.heap.size w2 w4 := bb3.trans (hb4.mono (by have := hz3.2; first | omega | (simp; omega)))
    have hz4 : w1.heap.size + 1 < w4.heap.size ∧ w2.heap.size ≤ w4.heap.size := by have := bb4.size; omega
    clear a0 a1 a2 b0 b1 b2
    clear hb4 hvs2 bb3 hz3
    obtain ⟨a0, a1, a2, b0, b1, b2⟩ := HCEL.out w4 bb4
    have hk1 : Calls Tryd.prog 11 #[.slice (some ⟨w4.heap.size, 0, none⟩) 1 1] (w4.alloc (.cells #[.int .i64 k, .int .i64 n, .string s] 39)) fun e w' => BytQ keyL 120 [⟨k, n, s⟩] (w4.alloc (.cells #[.int .i64 k, .int .i64 n, .string s] 39)) e w' := key_implQ (some ⟨w4.heap.size, 0, none⟩) 1 [⟨k, n, s⟩] (w4.alloc (.cells #[.int .i64 k, .int .i64 n, .string s] 39)) (bv_one HS.out) (go_one HN.out) (HTW.out _ (bb4.alloc hz4.2 _)) (rs_one w4 ⟨k, n, s⟩)
    go_wp2_with (go_at_call 11; fail)
    refine hk1.mono ?_
    rintro e w5 ⟨x, c1, l1, rfl, hy1, hc1, hb5⟩
    have bb5 : Below w2.heap.size w2 w5 := (bb4.alloc hz4.2 _).trans (hb5.mono (by have := hz4.2; first | omega | (simp; omega)))
    have hz5 : w1.heap.size + 1 < w5.heap.size ∧ w2.heap.size ≤ w5.heap.size := by have := bb5.size; omega
    clear a0 a1 a2 b0 b1 b2
    obtain ⟨xa, xc, rfl⟩ := hy1.form
    have HX5 := hid (hy1.base (b' := w2.heap.size) (by have := hz4.2; simp; omega))
    have HC1 := hid hc1
    clear hy1 hc1 hb5 hk1 bb4 hz4
    obtain ⟨a0, a1, a2, b0, b1, b2⟩ := HCEL.out w5 bb5
    have hk2 : Calls Tryd.prog 11 #[.slice (some ⟨w5.heap.size, 0, none⟩) 1 1] (w5.alloc (.cells #[.int .i64 k', .int .i64 n', .string s'] 39)) fun e w' => BytQ keyL 120 [⟨k', n', s'⟩] (w5.alloc (.cells #[.int .i64 k', .int .i64 n', .string s'] 39)) e w' := key_implQ (some ⟨w5.heap.size, 0, none⟩) 1 [⟨k', n', s'⟩] (w5.alloc (.cells #[.int .i64 k', .int .i64 n', .string s'] 39)) (bv_one HS'.out) (go_one HN'.out) (HTW.out _ (bb5.alloc hz5.2 _)) (rs_one w5 ⟨k', n', s'⟩)
    go_wp2_with (go_at_call 11; fail)
    refine hk2.mono ?_
    rintro e w6 ⟨y, c2, l2, rfl, hy2, hc2, hb6⟩
    have bb6 : Below w2.heap.size w2 w6 := (bb5.alloc hz5.2 _).trans (hb6.mono (by have := hz5.2; first | omega | (simp; omega)))
    have hz6 : w1.heap.size + 1 < w6.heap.size ∧ w2.heap.size ≤ w6.heap.size := by have := bb6.size; omega
    clear a0 a1 a2 b0 b1 b2
    obtain ⟨ya, yc, rfl⟩ := hy2.form
    have HY6 := hid (hy2.base (b' := w2.heap.size) (by have := hz5.2; simp; omega))
    have HX6 := hid ((YOut.below (World.ownsRow.alloc HX5.out _) hb6))
    have HC2 := hid hc2
    clear hy2 hc2 hb6 hk2 bb5 hz5 HX5
    obtain ⟨a0, a1, a2, b0, b1, b2⟩ := HCEL.out w6 bb6
    have hk3 : Calls Tryd.prog 9 #[.slice (some ⟨w6.heap.size, 0, none⟩) 1 1] (w6.alloc (.cells #[.int .i64 k, .int .i64 n, .string s] 39)) fun e w' => BytP keyL 120 [⟨k, n, s⟩] (w6.alloc (.cells #[.int .i64 k, .int .i64 n, .string s] 39)) e w' := key_spec (some ⟨w6.heap.size, 0, none⟩) 1 [⟨k, n, s⟩] (w6.alloc (.cells #[.int .i64 k, .int .i64 n, .string s] 39)) (bv_one HS.out) (go_one HN.out) (rs_one w6 ⟨k, n, s⟩)
    go_wp2_with (go_at_call 9; fail)
    refine hk3.mono ?_
    rintro e w7 ⟨x7, c3, l3, rfl, hr3, hc3, hb7⟩
    obtain ⟨_, rfl⟩ := bytC_eq hc3 HC1.out
    have bb7 : Below w2.heap.size w2 w7 := (bb6.alloc hz6.2 _).trans (hb7.mono (by have := hz6.2; first | omega | (simp; omega)))
    have hz7 : w1.heap.size + 1 < w7.heap.size ∧ w2.heap.size ≤ w7.heap.size := by have := bb7.size; omega
    clear a0 a1 a2 b0 b1 b2
    have HX7 := hid ((YOut.below (World.ownsRow.alloc HX6.out _) hb7))
    have HY7 := hid ((YOut.below (World.ownsRow.alloc HY6.out _) hb7))
    obtain ⟨x7a, x7c, rfl, _⟩ := hr3
    clear hc3 hb7 hk3 bb6 hz6 HX6 HY6
    obtain ⟨a0, a1, a2, b0, b1, b2⟩ := HCEL.out w7 bb7
    have hk4 : Calls Tryd.prog 9 #[.slice (some ⟨w7.heap.size, 0, none⟩) 1 1] (w7.alloc (.cells #[.int .i64 k', .int .i64 n', .string s'] 39)) fun e w' => BytP keyL 120 [⟨k', n', s'⟩] (w7.alloc (.cells #[.int .i64 k', .int .i64 n', .string s'] 39)) e w' := key_spec (some ⟨w7.heap.size, 0, none⟩) 1 [⟨k', n', s'⟩] (w7.alloc (.cells #[.int .i64 k', .int .i64 n', .string s'] 39)) (bv_one HS'.out) (go_one HN'.out) (rs_one w7 ⟨k', n', s'⟩)
    go_wp2_with (go_at_call 9; fail)
    refine hk4.mono ?_
    rintro e w8 ⟨x8, c4, l4, rfl, hr4, hc4, hb8⟩
    obtain ⟨_, rfl⟩ := bytC_eq hc4 HC2.out
    have bb8 : Below w2.heap.size w2 w8 := (bb7.alloc hz7.2 _).trans (hb8.mono (by have := hz7.2; first | omega | (simp; omega)))
    have hz8 : w1.heap.size + 1 < w8.heap.size ∧ w2.heap.size ≤ w8.heap.size := by have := bb8.size; omega
    clear a0 a1 a2 b0 b1 b2
    have HX8 := hid ((YOut.below (World.ownsRow.alloc HX7.out _) hb8))
    have HY8 := hid ((YOut.below (World.ownsRow.alloc HY7.out _) hb8))
    obtain ⟨x8a, x8c, rfl, _⟩ := hr4
    clear hc4 hb8 hk4 bb7 hz7 HX7 HY7
    obtain ⟨a0, a1, a2, b0, b1, b2⟩ := HCEL.out w8 bb8
    have hk5 : Calls Tryd.prog 18 #[.slice (some ⟨w8.heap.size, 0, none⟩) 2 2] (w8.alloc (.cells #[.int .i64 k, .int .i64 n, .string s, .int .i64 k', .int .i64 n', .string s'] 39)) fun e w' => BytQ rowL 4000 [⟨k, n, s⟩, ⟨k', n', s'⟩] (w8.alloc (.cells #[.int .i64 k, .int .i64 n, .string s, .int .i64 k', .int .i64 n', .string s'] 39)) e w' := row_implQ (some ⟨w8.heap.size, 0, none⟩) 2 [⟨k, n, s⟩, ⟨k', n', s'⟩] (w8.alloc (.cells #[.int .i64 k, .int .i64 n, .string s, .int .i64 k', .int .i64 n', .string s'] 39)) (bv_two HS.out HS'.out) (go_two HN.out HN'.out) (HTW.out _ (bb8.alloc hz8.2 _)) (rs_two w8 ⟨k, n, s⟩ ⟨k', n', s'⟩)
    go_wp2_with (go_at_call 18; fail)
    refine hk5.mono ?_
    rintro e w9 ⟨z, c5, l5, rfl, hy5, hc5, hb9⟩
    obtain ⟨hl5, rfl⟩ := HROW.out l5 c5 hc5
    have bb9 : Below w2.heap.size w2 w9 := (bb8.alloc hz8.2 _).trans (hb9.mono (by have := hz8.2; first | omega | (simp; omega)))
    have hz9 : w1.heap.size + 1 < w9.heap.size ∧ w2.heap.size ≤ w9.heap.size := by have := bb9.size; omega
    clear a0 a1 a2 b0 b1 b2
    have HX9 := hid ((YOut.below (World.ownsRow.alloc HX8.out _) hb9))
    have HY9 := hid ((YOut.below (World.ownsRow.alloc HY8.out _) hb9))
    obtain ⟨za, zc, rfl⟩ := hy5.form
    have hrv := rowValues_impl za zc l5 w9 (by rw [hl5]; exact Nat.le_trans HRL.out (by decide)) (by rw [hl5]; exact HRB.out) (HTW.out _ bb9) (hy5.ys (Nat.le_refl _))
    have HL5 := hid hl5
    clear hc5 hb9 hk5 bb8 hz8 HX8 HY8 hy5 hl5
    go_wp2_with (go_at_call 24; fail)
    refine hrv.mono ?_
    rintro e w10 ⟨v10, c10, us, rfl, hr10, hc10, hb10⟩
    rw [HL5.out] at hc10
    obtain ⟨rfl, rfl⟩ := rvC_eq hc10 HRVC.out
    have bb10 : Below w2.heap.size w2 w10 := bb9.trans (hb10.mono (by have := hz9.2; first | omega | (simp; omega)))
    have hz10 : w1.heap.size + 1 < w10.heap.size ∧ w2.heap.size ≤ w10.heap.size := by have := bb10.size; omega
    have HX10 := hid (HX9.out.below hb10)
    have HY10 := hid (HY9.out.below hb10)
    obtain ⟨g, o, vc, rfl, _, hgl, ⟨p0, p1, p2⟩, p3, p4, p5⟩ := two_cells hr10
    clear hc10 hb10 hrv bb9 hz9 HX9 HY9 hr10 HL5
    obtain ⟨a0, a1, a2, b0, b1, b2⟩ := HCEL.out w10 bb10
    go_wp2
    go_quiet (fail)
    rcases HC1.out with ⟨h, _, _⟩ | ⟨_, _, hl, rfl⟩ | ⟨_, hx120, hl, rfl⟩
    · rw [vals_one (t := ⟨k, n, s⟩) HV1.out] at h; cases h
    · have bw10 := HWW.out w10 bb10
      go_wp2
      go_ret
      exact ⟨rfl, below_drewN bw10 _⟩
    rcases HC2.out with ⟨h, _, _⟩ | ⟨_, _, hl', rfl⟩ | ⟨_, hy120, hl', rfl⟩
    · rw [vals_one (t := ⟨k', n', s'⟩) HV2.out] at h; cases h
    · have bw10 := HWW.out w10 bb10
      clear hl
      go_wp2
      go_ret
      exact ⟨rfl, below_drewN bw10 _⟩
    have hck := fun W => compare_K k n s k' n' s' W (by omega) (by omega) HV1.out HV2.out HK.out
    rw [← hl] at hx120
    rw [← hl'] at hy120
    rw [keyL_one] at hl hl'
    have hx0 : 0 < l1.length := by rw [hl]; exact keyP_pos _ _ _
    have hy0 : 0 < l2.length := by rw [hl']; exact keyP_pos _ _ _
    have HBX : Hid (Byt l1) := (by rw [hl]; exact keyP_byt HV1.out : Byt l1)
    have HBY : Hid (Byt l2) := (by rw [hl']; exact keyP_byt HV2.out : Byt l2)
    obtain ⟨od, hod⟩ : ∃ z, ordK ⟨k, n, s⟩ ⟨k', n', s'⟩ = z := ⟨_, rfl⟩
    rw [hod] at hck
    have hless : Op.bytesLess (strOfNums l1).toList (strOfNums l2).toList = decide (od < 0) := by
      rw [less_nums HBX.out HBY.out, hl, hl', ← hod]
      exact key_less (t := ⟨k, n, s⟩) (u := ⟨k', n', s'⟩) HV1.out HV2.out HN.out HN'.out HK.out
    have hsame : ((strOfNums l1).toList == (strOfNums l2).toList) = (od == 0) := by
      rw [same_nums HBX.out HBY.out, hl, hl', ← hod, Bool.eq_iff_iff, decide_eq_true_iff, beq_iff_eq]
      exact key_eq (t := ⟨k, n, s⟩) (u := ⟨k', n', s'⟩) HV1.out HV2.out HN.out HN'.out HK.out
    have HKV : Hid (l1.length + l2.length ≤ 120 → KvC (l1 ++ l2) [⟨k, n, s⟩, ⟨k', n', s'⟩] 0) := (fun h => by
      refine .inl ⟨vals_two (t := ⟨k, n, s⟩) (u := ⟨k', n', s'⟩) HV1.out HV2.out, go_two HN.out HN'.out, ?_, ?_, rfl⟩
      · rw [keyL_two]
        simp only
        rw [← hl, ← hl', List.length_append]
        exact h
      · rw [keyL_two]
        simp only
        rw [← hl, ← hl'] : l1.length + l2.length ≤ 120 → KvC (l1 ++ l2) [⟨k, n, s⟩, ⟨k', n', s'⟩] 0)
    clear hl hl' hod HC1 HC2 HROW HRVC HRB HRL p0 p1 p2 p3 p4 p5
    go_wp2_with (go_at_call 27; fail)
    refine (hck _).mono ?_
    rintro e w11 ⟨rfl, hb11⟩
    replace hb11 := undrewN hb11
    have HX11 := hid (HX10.out.below hb11)
    have HY11 := hid (HY10.out.below hb11)
    have bb11 : Below w2.heap.size w2 w11 := bb10.trans (hb11.mono hz10.2)
    have hz11 : w1.heap.size + 1 < w11.heap.size ∧ w2.heap.size ≤ w11.heap.size := by have := bb11.size; omega
    clear a0 a1 a2 b0 b1 b2 hb11 hck bb10 hz10 HX10 HY10
    obtain ⟨a0, a1, a2, b0, b1, b2⟩ := HCEL.out w11 bb11
    have hcx := conv_rs ((HX11.out.rsw.rs (D := CY) id).mono liesY (Nat.zero_le _))
    have hcy := conv_rs ((HY11.out.rsw.rs (D := CY) id).mono liesY (Nat.zero_le _))
    obtain ⟨gx, xcap, hxe, hgx0, hgx1, hxc⟩ := HX11.out.cells hx0
    obtain ⟨gy, ycap, hye, hgy0, hgy1, hyc⟩ := HY11.out.cells hy0
    simp only [Value.slice.injEq] at hxe hye
    obtain ⟨rfl, _, rfl⟩ := hxe
    obtain ⟨rfl, _, rfl⟩ := hye
    obtain ⟨i0, hi, hz0, hz1, hz2'⟩ := info_parts infoU8
    have HE0 : Hid (YOut 5 w11.heap.size (w11.alloc (.cells #[] 5)) (.slice (some ⟨w11.heap.size, 0, none⟩) 0 0) []) := (by
      have := YOut.made (ty := 5) (b := w11.heap.size) w11 [] (Nat.le_refl _) (by simp)
      simpa using this : YOut 5 w11.heap.size (w11.alloc (.cells #[] 5)) (.slice (some ⟨w11.heap.size, 0, none⟩) 0 0) [])
    have HXC : Hid (∀ j u, (l1.map (Value.int .u8))[j]? = some u → (w11.alloc (.cells #[] 5)).cell? ((⟨gx, 0, none⟩ : Addr).add j) = some u) := (fun j u hj => by
      rw [Addr.add_lit, World.cell?_alloc_lt _ _ _ (by exact hgx1)]
      have := hxc j u hj
      rwa [Addr.add_lit] at this : ∀ j u, (l1.map (Value.int .u8))[j]? = some u → (w11.alloc (.cells #[] 5)).cell? ((⟨gx, 0, none⟩ : Addr).add j) = some u)
    have HLT0 := hid (World.ownsRow.lt HE0.out)
    have HYC := hid hyc
    have hwl : IntKind.i64.wrap ((l1.length : Int) + l2.length) = (l1.length : Int) + l2.length := by simp only [IntKind.wrap_i64]; omega
    clear hxc hyc
    go_wp2_with (first
      | (at_builtin
         refine wpList_append_own _ rfl (.tmp 148) (.tmp 149) 24 rfl w11.heap.size 5 i0 (.int .u8 0) 1 1 Tryd.underlying24 hi hz0 hz1 hz2' rfl (by decide) _ _ _ rfl HE0.out ⟨gx, 0, none⟩ l1.length xc (l1.map (Value.int .u8)) rfl (by rw [List.length_map]; omega) HXC.out (oneU8 l1) (by unfold maxLen; simp; omega) (by simp; omega) (by simp) ?_
         intro v12 w12 hown12 hgrow12 hiff12
         clear hiff12
         have b12 : Below w11.heap.size w11 w12 := (below_alloc w11 _).grown hgrow12 (by simp) (fun j hj => (HLT0.out j hj).1)
         have HR12 : Hid (YOut 5 w11.heap.size w12 v12 l1) := (by simpa [YOut] using hown12 : YOut 5 w11.heap.size w12 v12 l1)
         obtain ⟨oa12, oc12, rfl⟩ := HR12.out.form
         have HYC12 : Hid (∀ j u, (l2.map (Value.int .u8))[j]? = some u → w12.cell? ((⟨gy, 0, none⟩ : Addr).add j) = some u) := (fun j u hj => by
           have := HYC.out j u hj
           rw [Addr.add_lit] at this ⊢
           exact (b12.cell (p := ⟨gy, 0 + j, none⟩) hgy1).trans this : ∀ j u, (l2.map (Value.int .u8))[j]? = some u → w12.cell? ((⟨gy, 0, none⟩ : Addr).add j) = some u)
         have HLT12 := hid (World.ownsRow.lt HR12.out)
         clear hown12 hgrow12 HE0 HXC HLT0)
      | (at_builtin
         refine wpList_append_own _ rfl (.tmp 150) (.tmp 151) 24 rfl w11.heap.size 5 i0 (.int .u8 0) 1 1 Tryd.underlying24 hi hz0 hz1 hz2' rfl (by decide) _ _ _ rfl HR12.out ⟨gy, 0, none⟩ l2.length yc (l2.map (Value.int .u8)) rfl (by rw [List.length_map]; omega) HYC12.out (oneU8 l2) (by unfold maxLen; omega) (by omega) b12.size ?_
         intro v13 w13 hown13 hgrow13 hiff13
         clear hiff13
         have b13 : Below w11.heap.size w11 w13 := b12.grown hgrow13 b12.size (fun j hj => (HLT12.out j hj).1)
         have HR13 : Hid (YOut 5 w11.heap.size w13 v13 (l1 ++ l2)) := YOut.more hown13
         obtain ⟨l12, hl12⟩ : ∃ z, z = l1 ++ l2 := ⟨_, rfl⟩
         rw [← hl12] at HR13
         have HL12 := hid hl12
         obtain ⟨oa13, oc13, rfl⟩ := HR13.out.form
         have bb13 : Below w2.heap.size w2 w13 := bb11.trans (b13.mono hz11.2)
         have hkv := keyValues_impl oa13 oc13 l12 w13 (by rw [hl12]; exact fun z hz => (List.mem_append.1 hz).elim (HBX.out z) (HBY.out z)) (HTW.out _ bb13) (HR13.out.ys (Nat.le_refl _))
         clear hl12 hown13 hgrow13 HR12 HYC12 HLT12 b12)
      | (go_at_call 21
         fail))
    refine hkv.mono ?_
    rintro e w14 ⟨v14, c14, us14, rfl, hr14, hc14, hb14⟩
    have bb14 : Below w2.heap.size w2 w14 := bb13.trans (hb14.mono (by have := bb13.size; omega))
    have hz14 : w1.heap.size + 1 < w14.heap.size ∧ w2.heap.size ≤ w14.heap.size := by have := bb14.size; omega
    have bw14 := HWW.out w14 bb14
    clear a0 a1 a2 b0 b1 b2 hkv hb14 bb13 b13 bb11 hz11 HR13
    obtain ⟨a0, a1, a2, b0, b1, b2⟩ := HCEL.out w14 bb14
    by_cases h120 : l1.length + l2.length ≤ 120
    · have h120i : (l1.length : Int) + l2.length ≤ 120 := by omega
      rw [HL12.out] at hc14
      obtain ⟨rfl, rfl⟩ := kvC_eq hc14 (HKV.out h120)
      obtain ⟨g, o, vc, rfl, _, hgl, ⟨p0, p1, p2⟩, p3, p4, p5⟩ := two_cells hr14
      clear hc14 hr14 HKV
      go_wp2
      go_quiet (fail)
      go_wp2
      go_ret
      exact ⟨rfl, below_drewN bw14 _⟩
    · have h120i : ¬ (l1.length : Int) + l2.length ≤ 120 := by omega
      have h120d : decide ((l1.length : Int) + l2.length ≤ 120) = false := decide_eq_false h120i
      obtain ⟨va14, vc14, rfl, _⟩ := hr14
      clear hc14 HKV
      go_wp2
      go_quiet (fail)
      go_wp2
      go_ret
      exact ⟨rfl, below_drewN bw14 _⟩
end Go.Proofs.YtfgjleifhjegkaaDoor
