import Derived.Test.YtdcdoeolaongkaaGreatDoorC0
import Derived.Test.YtdcdoeolaongkaaGreatDoorU2
import Derived.Test.YtdcdoeolaongkaaGreatDoorXC2
import Derived.Test.YtdcdoeolaongkaaGreatDoorS2
namespace Go.Proofs.YtdcdoeolaongkaaGreatDoor.Ca
open Go.ChangeShapes Go.WideShapes Go.ChangeAt Go.RowKit Go.Shelf
set_option linter.unusedVariables false
set_option linter.unusedSimpArgs false
set_option maxRecDepth 100000
theorem one_cells {W : World} {a : Option Addr} {cap : Nat} {k n : Int} {s : ByteArray} (h : RVO W (.slice a 1 cap) [(k, n, s)]) : ∃ g o, a = some ⟨g, o, none⟩ ∧ g < W.heap.size ∧ W.cell? ⟨g, o, none⟩ = some (.int .i64 k) ∧ W.cell? ⟨g, o + 1, none⟩ = some (.int .i64 n) ∧ W.cell? ⟨g, o + 2, none⟩ = some (.string s) := by
  obtain ⟨a', cap', hsl, h2⟩ := h
  simp only [Value.slice.injEq] at hsl
  obtain ⟨rfl, _, rfl⟩ := hsl
  obtain ⟨g, o, ha, hg, hc⟩ := h2 (by simp)
  have := hc 0 (by simp)
  exact ⟨g, o, ha, hg, by simpa using this.1, by simpa using this.2.1, by simpa using this.2.2⟩
theorem two_cells {W : World} {a : Option Addr} {cap : Nat} {k n k' n' : Int} {s s' : ByteArray} (h : RVO W (.slice a 2 cap) [(k, n, s), (k', n', s')]) : ∃ g o, a = some ⟨g, o, none⟩ ∧ g < W.heap.size ∧ (W.cell? ⟨g, o, none⟩ = some (.int .i64 k) ∧ W.cell? ⟨g, o + 1, none⟩ = some (.int .i64 n) ∧ W.cell? ⟨g, o + 2, none⟩ = some (.string s)) ∧ W.cell? ⟨g, o + 3, none⟩ = some (.int .i64 k') ∧ W.cell? ⟨g, o + 3 + 1, none⟩ = some (.int .i64 n') ∧ W.cell? ⟨g, o + 3 + 2, none⟩ = some (.string s') := by
  obtain ⟨a', cap', hsl, h2⟩ := h
  simp only [Value.slice.injEq] at hsl
  obtain ⟨rfl, _, rfl⟩ := hsl
  obtain ⟨g, o, ha, hg, hc⟩ := h2 (by simp)
  have h0 := hc 0 (by simp)
  have h1 := hc 1 (by simp)
  exact ⟨g, o, ha, hg, ⟨by simpa using h0.1, by simpa using h0.2.1, by simpa using h0.2.2⟩, by simpa using h1.1, by simpa using h1.2.1, by simpa using h1.2.2⟩
theorem undrew {W w' : World} (hb : Below W.drew.heap.size W.drew w') : Below W.heap.size W w' := (Below.refl W.heap.size W).drew.trans hb
def zeroC : Array Value := #[.int .i64 0, .int .i64 0, .string ⟨#[]⟩]
/-- What is called ends with a value and a code. -/
def Gives (R : Value → Prop) (w : World) (e : Ending) (w' : World) : Prop := ∃ k n s c, R (Rd.tV k n s c) ∧ e = .returned (Rd.tV k n s c) ∧ Below w.heap.size w w'
theorem Gives.mk {R : Value → Prop} {w w' : World} {k n c : Int} {s : ByteArray} (h : R (Rd.tV k n s c)) (hb : Below w.heap.size w w') : Gives R w (.returned (Rd.tV k n s c)) w' := ⟨k, n, s, c, h, rfl, hb⟩
set_option maxHeartbeats 2000000 in
theorem round_work (k n : Int) (s : ByteArray) (a : Option Addr) (cap : Nat) (W : World) (h : RVO W (.slice a 1 cap) [(k, n, s)]) (h1 : -999999999999999999 ≤ n) (h2 : n ≤ 999999999999999999) :
    Calls Tryz.prog 94 #[.slice a 1 cap] W fun e w' => Gives (fun V => V = (if (Rd.toU (Rd.rndI n)).2 = 0 then Rd.tV 2 (Rd.toU (Rd.rndI n)).1 ⟨#[]⟩ 0 else Rd.tV 0 0 ⟨#[]⟩ 13)) W e w' := by
  obtain ⟨g, o, rfl, hg, c0, c1, c2⟩ := one_cells h
  have bw0 := below_alloc W (.cells #[.int .i64 0, .int .i64 0, .string ⟨#[]⟩] 29)
  have d1 := (bw0.cell (p := ⟨g, o + 1, none⟩) hg).trans c1
  have hr := fun w => Rd.wholeOf_any n w h1 h2
  generalize Rd.rndI n = r at *
  have hU := Rd.toU_two r
  have hdu := fun w => Rd.decUnits_any r w
  generalize Rd.toU r = u at *
  obtain ⟨u1, u2⟩ := u
  simp only at hU hdu
  clear h c0 c2 c1
  rcases hU with rfl | ⟨rfl, rfl⟩
  · go_enter Tryz.func94, Tryz.ntmps94
    go_wp2_with (go_at_call 50; fail)
    refine (hr _).mono ?_
    rintro e w1 ⟨rfl, hb1⟩
    obtain ⟨hc1, hf1⟩ := bcell hb1
    have hz1 : W.heap.size < w1.heap.size := by have := hb1.size; simp at this; omega
    have bw1 : Below W.heap.size W w1 := bw0.trans (hb1.mono (by simp))
    go_wp2_with (first | (go_at_call 48; refine (hdu _).mono ?_; rintro e w0 ⟨rfl, hw⟩; rw [hw]; clear hw w0) | (go_at_call 49; fail))
    refine (numbered_ok 2 u1 _).mono ?_
    rintro e w2 ⟨rfl, hb2⟩
    obtain ⟨hc2, hf2⟩ := bcell hb2
    have hz2 : W.heap.size < w2.heap.size := by have := hb2.size; omega
    have bw2 : Below W.heap.size W w2 := bw1.trans (hb2.mono bw1.size)
    go_wp2
    refine bodyPost_ret (v := Rd.tV 2 u1 ⟨#[]⟩ 0) (by simp [results, Tryz.results94, go_sem, Rd.tV, hc1, hf1, hz1, hc2, hf2, hz2]) rfl (Gives.mk (by simp) ?_)
    exact ((bw2.setCell (Nat.le_refl _) _).setCell (Nat.le_refl _) _).setCell (Nat.le_refl _) _
  · go_enter Tryz.func94, Tryz.ntmps94
    go_wp2_with (go_at_call 50; fail)
    refine (hr _).mono ?_
    rintro e w1 ⟨rfl, hb1⟩
    obtain ⟨hc1, hf1⟩ := bcell hb1
    have hz1 : W.heap.size < w1.heap.size := by have := hb1.size; simp at this; omega
    have bw1 : Below W.heap.size W w1 := bw0.trans (hb1.mono (by simp))
    go_wp2_with (first | (go_at_call 48; refine (hdu _).mono ?_; rintro e w0 ⟨rfl, hw⟩; rw [hw]; clear hw w0) | (go_at_call 49; fail))
    refine (numbered_bad 2 0 13 _ (by decide)).mono ?_
    rintro e w2 ⟨rfl, hb2⟩
    obtain ⟨hc2, hf2⟩ := bcell hb2
    have hz2 : W.heap.size < w2.heap.size := by have := hb2.size; omega
    have bw2 : Below W.heap.size W w2 := bw1.trans (hb2.mono bw1.size)
    go_wp2
    refine bodyPost_ret (v := Rd.tV 0 0 ⟨#[]⟩ 13) (by simp [results, Tryz.results94, go_sem, Rd.tV, hc1, hf1, hz1, hc2, hf2, hz2]) rfl (Gives.mk (by simp) ?_)
    exact ((bw2.setCell (Nat.le_refl _) _).setCell (Nat.le_refl _) _).setCell (Nat.le_refl _) _
set_option maxHeartbeats 2000000 in
theorem length_work (k n : Int) (s : ByteArray) (a : Option Addr) (cap : Nat) (W : World) (h : RVO W (.slice a 1 cap) [(k, n, s)]) (hs : s.size ≤ 1048576) :
    Calls Tryz.prog 85 #[.slice a 1 cap] W fun e w' => Gives (fun V => V = Rd.tV 1 (Lib.runeCount s) ⟨#[]⟩ 0) W e w' := by
  obtain ⟨g, o, rfl, hg, c0, c1, c2⟩ := one_cells h
  have bw0 := below_alloc W (.cells #[.int .i64 0, .int .i64 0, .string ⟨#[]⟩] 29)
  have d2 := (bw0.cell (p := ⟨g, o + 2, none⟩) hg).trans c2
  have hcon := fun w => charCount_any s w (by omega)
  generalize Lib.runeCount s = r at *
  clear h c0 c1 c2
  go_enter Tryz.func85, Tryz.ntmps85
  go_wp2_with (go_at_call 101; fail)
  refine (hcon _).mono ?_
  rintro e w1 ⟨rfl, hb1⟩
  obtain ⟨hc1, hf1⟩ := bcell hb1
  have hz1 : W.heap.size < w1.heap.size := by have := hb1.size; simp at this; omega
  have bw1 : Below W.heap.size W w1 := bw0.trans (hb1.mono (by simp))
  go_wp2
  refine bodyPost_ret (v := Rd.tV 1 r ⟨#[]⟩ 0) (by simp [results, Tryz.results85, go_sem, Rd.tV, hc1, hf1, hz1]) rfl (Gives.mk rfl ?_)
  exact ((bw1.setCell (Nat.le_refl _) _).setCell (Nat.le_refl _) _).setCell (Nat.le_refl _) _
set_option maxHeartbeats 2000000 in
theorem trim_work (k n : Int) (s : ByteArray) (a : Option Addr) (cap : Nat) (W : World) (h : RVO W (.slice a 1 cap) [(k, n, s)]) (hs : s.size ≤ 1048576) :
    Calls Tryz.prog 95 #[.slice a 1 cap] W fun e w' => Gives (fun V => V = Rd.tV 3 0 ⟨(Lib.trimB s.data.toList 32).toArray⟩ 0) W e w' := by
  obtain ⟨g, o, rfl, hg, c0, c1, c2⟩ := one_cells h
  have bw0 := below_alloc W (.cells #[.int .i64 0, .int .i64 0, .string ⟨#[]⟩] 29)
  have d2 := (bw0.cell (p := ⟨g, o + 2, none⟩) hg).trans c2
  have hcon := fun w => Tryz.strings_Trim_one s 32 (by decide) w (by omega)
  generalize Lib.trimB s.data.toList 32 = r at *
  clear h c0 c1 c2
  go_enter Tryz.func95, Tryz.ntmps95
  go_wp2_with (go_at_call 154; fail)
  refine (hcon _).mono ?_
  rintro e w1 ⟨rfl, hw⟩
  have hb1 : Below (W.alloc (.cells #[.int .i64 0, .int .i64 0, .string ⟨#[]⟩] 29)).heap.size (W.alloc (.cells #[.int .i64 0, .int .i64 0, .string ⟨#[]⟩] 29)) w1 := by
    rcases hw with rfl | rfl
    · exact Below.refl _ _
    · exact (Below.refl _ _).drew
  clear hw
  obtain ⟨hc1, hf1⟩ := bcell hb1
  have hz1 : W.heap.size < w1.heap.size := by have := hb1.size; simp at this; omega
  have bw1 : Below W.heap.size W w1 := bw0.trans (hb1.mono (by simp))
  go_wp2_with (go_at_call 46; fail)
  refine (Rd.textValue_any _ _).mono ?_
  rintro e w2 ⟨rfl, hb2⟩
  obtain ⟨hc2, hf2⟩ := bcell hb2
  have hz2 : W.heap.size < w2.heap.size := by have := hb2.size; omega
  have bw2 : Below W.heap.size W w2 := bw1.trans (hb2.mono bw1.size)
  go_wp2
  refine bodyPost_ret (v := Rd.tV 3 0 ⟨r.toArray⟩ 0) (by simp [results, Tryz.results95, go_sem, Rd.tV, hc1, hf1, hz1, hc2, hf2, hz2]) rfl (Gives.mk rfl ?_)
  exact ((bw2.setCell (Nat.le_refl _) _).setCell (Nat.le_refl _) _).setCell (Nat.le_refl _) _
set_option maxHeartbeats 2000000 in
theorem abs_pos (k n : Int) (s : ByteArray) (a : Option Addr) (cap : Nat) (W : World) (h : RVO W (.slice a 1 cap) [(k, n, s)]) (hn : 0 ≤ n) :
    Calls Tryz.prog 83 #[.slice a 1 cap] W fun e w' => Gives (fun V => V = Rd.tV k n s 0) W e w' := by
  obtain ⟨g, o, rfl, hg, c0, c1, c2⟩ := one_cells h
  have bw0 := below_alloc W (.cells #[.int .i64 0, .int .i64 0, .string ⟨#[]⟩] 29)
  have d0 := (bw0.cell (p := ⟨g, o, none⟩) hg).trans c0
  have d1 := (bw0.cell (p := ⟨g, o + 1, none⟩) hg).trans c1
  have d2 := (bw0.cell (p := ⟨g, o + 2, none⟩) hg).trans c2
  clear h c0 c1 c2
  go_enter Tryz.func83, Tryz.ntmps83
  go_wp2
  refine bodyPost_ret (v := Rd.tV k n s 0) (by simp [results, Tryz.results83, go_sem, Rd.tV]) rfl (Gives.mk rfl ?_)
  go_light
  repeat (first | with_reducible exact Below.refl _ _ | refine Below.setCell ?_ (by simp) _ | refine Below.alloc ?_ (by simp) _)
set_option maxHeartbeats 2000000 in
theorem abs_neg (k n : Int) (s : ByteArray) (a : Option Addr) (cap : Nat) (W : World) (h : RVO W (.slice a 1 cap) [(k, n, s)]) (hs : s.size ≤ 1048576) (wn : (Lit.int .i64 n).wf = true) (hT : Tabs W) (hn : ¬ 0 ≤ n) :
    Calls Tryz.prog 83 #[.slice a 1 cap] W fun e w' => Gives (fun V => V = unV (unR 17 k n (Ok.opk 17 k 0) (vok k n s))) W e w' := by
  obtain ⟨g, o, rfl, hg, c0, c1, c2⟩ := one_cells h
  have bw0 := below_alloc W (.cells #[.int .i64 0, .int .i64 0, .string ⟨#[]⟩] 29)
  have d0 := (bw0.cell (p := ⟨g, o, none⟩) hg).trans c0
  have d1 := (bw0.cell (p := ⟨g, o + 1, none⟩) hg).trans c1
  have d2 := (bw0.cell (p := ⟨g, o + 2, none⟩) hg).trans c2
  have hcon := fun w t => unary_impl 17 k n s w hs wn t
  generalize unR 17 k n (Ok.opk 17 k 0) (vok k n s) = r at *
  obtain ⟨r1, r2, r3⟩ := r
  clear h c0 c1 c2 wn
  have hn' : decide (0 ≤ n) = false := by simpa using hn
  go_enter Tryz.func83, Tryz.ntmps83
  go_wp2_with (go_at_call 148; fail)
  refine (hcon _ (tabs_below hT bw0)).mono ?_
  simp only [unV]
  rintro e w1 ⟨rfl, hb1⟩
  obtain ⟨hc1, hf1⟩ := bcell hb1
  have hz1 : W.heap.size < w1.heap.size := by have := hb1.size; simp at this; omega
  have bw1 : Below W.heap.size W w1 := bw0.trans (hb1.mono (by simp))
  go_wp2
  refine bodyPost_ret (v := Rd.tV r1 r2 ⟨#[]⟩ r3) (by simp [results, Tryz.results83, go_sem, Rd.tV, hc1, hf1, hz1]) rfl (Gives.mk rfl ?_)
  exact ((bw1.setCell (Nat.le_refl _) _).setCell (Nat.le_refl _) _).setCell (Nat.le_refl _) _
set_option maxHeartbeats 2000000 in
theorem least_a (k n : Int) (s : ByteArray) (k2 n2 : Int) (s2 : ByteArray) (a : Option Addr) (cap : Nat) (W : World) (h : RVO W (.slice a 2 cap) [(k, n, s), (k2, n2, s2)]) (hF : Fit k n k2 n2) (hc : ordV k n s k2 n2 s2 ≤ 0) :
    Calls Tryz.prog 97 #[.slice a 2 cap] W fun e w' => Gives (fun V => V = Rd.tV k n s 0) W e w' := by
  obtain ⟨g, o, rfl, hg, ⟨c0, c1, c2⟩, e0, e1, e2⟩ := two_cells h
  have bw0 := below_alloc W (.cells #[.int .i64 0, .int .i64 0, .string ⟨#[]⟩] 29)
  have d0 := (bw0.cell (p := ⟨g, o, none⟩) hg).trans c0
  have d1 := (bw0.cell (p := ⟨g, o + 1, none⟩) hg).trans c1
  have d2 := (bw0.cell (p := ⟨g, o + 2, none⟩) hg).trans c2
  have d3 := (bw0.cell (p := ⟨g, o + 3, none⟩) hg).trans e0
  have d4 := (bw0.cell (p := ⟨g, o + 3 + 1, none⟩) hg).trans e1
  have d5 := (bw0.cell (p := ⟨g, o + 3 + 2, none⟩) hg).trans e2
  have hcon := fun w => orderOf_any k n s k2 n2 s2 w hF
  generalize ordV k n s k2 n2 s2 = o_ at *
  have ho : o_ ≤ 0 := hc
  clear h c0 c1 c2 e0 e1 e2 hF hc
  go_enter Tryz.func97, Tryz.ntmps97
  go_wp2
  go_region_with (go_at_call 59; refine (hcon _).mono ?_; rintro e w1 ⟨rfl, hb1⟩; replace hb1 := undrew hb1; obtain ⟨hc1, hf1⟩ := bcell hb1; have hz1 : W.heap.size < w1.heap.size := (by have := hb1.size; simp at this; omega); have bw1 : Below W.heap.size W w1 := bw0.trans (hb1.mono (by simp)); have b1' := fun (b o : Nat) (hb : b < W.heap.size) => (hc1 b o (by simp; omega)); have d0 := (hb1.cell (p := ⟨g, o, none⟩) (by show g < _; simp; omega)).trans d0; have d1 := (hb1.cell (p := ⟨g, o + 1, none⟩) (by show g < _; simp; omega)).trans d1; have d2 := (hb1.cell (p := ⟨g, o + 2, none⟩) (by show g < _; simp; omega)).trans d2; have d3 := (hb1.cell (p := ⟨g, o + 3, none⟩) (by show g < _; simp; omega)).trans d3; have d4 := (hb1.cell (p := ⟨g, o + 3 + 1, none⟩) (by show g < _; simp; omega)).trans d4; have d5 := (hb1.cell (p := ⟨g, o + 3 + 2, none⟩) (by show g < _; simp; omega)).trans d5)
  all_goals
    go_wp2
    refine bodyPost_ret (v := Rd.tV k n s 0) (by simp [results, Tryz.results97, go_sem, Rd.tV, hc1, hf1, hz1]) rfl (Gives.mk rfl ?_)
    first | exact ((bw1.setCell (Nat.le_refl _) _).setCell (Nat.le_refl _) _).setCell (Nat.le_refl _) _ | exact ((bw1.drew.setCell (Nat.le_refl _) _).setCell (Nat.le_refl _) _).setCell (Nat.le_refl _) _
set_option maxHeartbeats 2000000 in
theorem least_b (k n : Int) (s : ByteArray) (k2 n2 : Int) (s2 : ByteArray) (a : Option Addr) (cap : Nat) (W : World) (h : RVO W (.slice a 2 cap) [(k, n, s), (k2, n2, s2)]) (hF : Fit k n k2 n2) (hc : ¬ ordV k n s k2 n2 s2 ≤ 0) :
    Calls Tryz.prog 97 #[.slice a 2 cap] W fun e w' => Gives (fun V => V = Rd.tV k2 n2 s2 0) W e w' := by
  obtain ⟨g, o, rfl, hg, ⟨c0, c1, c2⟩, e0, e1, e2⟩ := two_cells h
  have bw0 := below_alloc W (.cells #[.int .i64 0, .int .i64 0, .string ⟨#[]⟩] 29)
  have d0 := (bw0.cell (p := ⟨g, o, none⟩) hg).trans c0
  have d1 := (bw0.cell (p := ⟨g, o + 1, none⟩) hg).trans c1
  have d2 := (bw0.cell (p := ⟨g, o + 2, none⟩) hg).trans c2
  have d3 := (bw0.cell (p := ⟨g, o + 3, none⟩) hg).trans e0
  have d4 := (bw0.cell (p := ⟨g, o + 3 + 1, none⟩) hg).trans e1
  have d5 := (bw0.cell (p := ⟨g, o + 3 + 2, none⟩) hg).trans e2
  have hcon := fun w => orderOf_any k n s k2 n2 s2 w hF
  generalize ordV k n s k2 n2 s2 = o_ at *
  have ho : decide (o_ ≤ 0) = false := by simpa using hc
  clear h c0 c1 c2 e0 e1 e2 hF hc
  go_enter Tryz.func97, Tryz.ntmps97
  go_wp2
  go_region_with (go_at_call 59; refine (hcon _).mono ?_; rintro e w1 ⟨rfl, hb1⟩; replace hb1 := undrew hb1; obtain ⟨hc1, hf1⟩ := bcell hb1; have hz1 : W.heap.size < w1.heap.size := (by have := hb1.size; simp at this; omega); have bw1 : Below W.heap.size W w1 := bw0.trans (hb1.mono (by simp)); have b1' := fun (b o : Nat) (hb : b < W.heap.size) => (hc1 b o (by simp; omega)); have d0 := (hb1.cell (p := ⟨g, o, none⟩) (by show g < _; simp; omega)).trans d0; have d1 := (hb1.cell (p := ⟨g, o + 1, none⟩) (by show g < _; simp; omega)).trans d1; have d2 := (hb1.cell (p := ⟨g, o + 2, none⟩) (by show g < _; simp; omega)).trans d2; have d3 := (hb1.cell (p := ⟨g, o + 3, none⟩) (by show g < _; simp; omega)).trans d3; have d4 := (hb1.cell (p := ⟨g, o + 3 + 1, none⟩) (by show g < _; simp; omega)).trans d4; have d5 := (hb1.cell (p := ⟨g, o + 3 + 2, none⟩) (by show g < _; simp; omega)).trans d5)
  all_goals
    go_wp2
    refine bodyPost_ret (v := Rd.tV k2 n2 s2 0) (by simp [results, Tryz.results97, go_sem, Rd.tV, hc1, hf1, hz1]) rfl (Gives.mk rfl ?_)
    first | exact ((bw1.setCell (Nat.le_refl _) _).setCell (Nat.le_refl _) _).setCell (Nat.le_refl _) _ | exact ((bw1.drew.setCell (Nat.le_refl _) _).setCell (Nat.le_refl _) _).setCell (Nat.le_refl _) _
set_option maxHeartbeats 2000000 in
theorem greatest_a (k n : Int) (s : ByteArray) (k2 n2 : Int) (s2 : ByteArray) (a : Option Addr) (cap : Nat) (W : World) (h : RVO W (.slice a 2 cap) [(k, n, s), (k2, n2, s2)]) (hF : Fit k n k2 n2) (hc : 0 ≤ ordV k n s k2 n2 s2) :
    Calls Tryz.prog 98 #[.slice a 2 cap] W fun e w' => Gives (fun V => V = Rd.tV k n s 0) W e w' := by
  obtain ⟨g, o, rfl, hg, ⟨c0, c1, c2⟩, e0, e1, e2⟩ := two_cells h
  have bw0 := below_alloc W (.cells #[.int .i64 0, .int .i64 0, .string ⟨#[]⟩] 29)
  have d0 := (bw0.cell (p := ⟨g, o, none⟩) hg).trans c0
  have d1 := (bw0.cell (p := ⟨g, o + 1, none⟩) hg).trans c1
  have d2 := (bw0.cell (p := ⟨g, o + 2, none⟩) hg).trans c2
  have d3 := (bw0.cell (p := ⟨g, o + 3, none⟩) hg).trans e0
  have d4 := (bw0.cell (p := ⟨g, o + 3 + 1, none⟩) hg).trans e1
  have d5 := (bw0.cell (p := ⟨g, o + 3 + 2, none⟩) hg).trans e2
  have hcon := fun w => orderOf_any k n s k2 n2 s2 w hF
  generalize ordV k n s k2 n2 s2 = o_ at *
  have ho : 0 ≤ o_ := hc
  clear h c0 c1 c2 e0 e1 e2 hF hc
  go_enter Tryz.func98, Tryz.ntmps98
  go_wp2
  go_region_with (go_at_call 59; refine (hcon _).mono ?_; rintro e w1 ⟨rfl, hb1⟩; replace hb1 := undrew hb1; obtain ⟨hc1, hf1⟩ := bcell hb1; have hz1 : W.heap.size < w1.heap.size := (by have := hb1.size; simp at this; omega); have bw1 : Below W.heap.size W w1 := bw0.trans (hb1.mono (by simp)); have b1' := fun (b o : Nat) (hb : b < W.heap.size) => (hc1 b o (by simp; omega)); have d0 := (hb1.cell (p := ⟨g, o, none⟩) (by show g < _; simp; omega)).trans d0; have d1 := (hb1.cell (p := ⟨g, o + 1, none⟩) (by show g < _; simp; omega)).trans d1; have d2 := (hb1.cell (p := ⟨g, o + 2, none⟩) (by show g < _; simp; omega)).trans d2; have d3 := (hb1.cell (p := ⟨g, o + 3, none⟩) (by show g < _; simp; omega)).trans d3; have d4 := (hb1.cell (p := ⟨g, o + 3 + 1, none⟩) (by show g < _; simp; omega)).trans d4; have d5 := (hb1.cell (p := ⟨g, o + 3 + 2, none⟩) (by show g < _; simp; omega)).trans d5)
  all_goals
    go_wp2
    refine bodyPost_ret (v := Rd.tV k n s 0) (by simp [results, Tryz.results98, go_sem, Rd.tV, hc1, hf1, hz1]) rfl (Gives.mk rfl ?_)
    first | exact ((bw1.setCell (Nat.le_refl _) _).setCell (Nat.le_refl _) _).setCell (Nat.le_refl _) _ | exact ((bw1.drew.setCell (Nat.le_refl _) _).setCell (Nat.le_refl _) _).setCell (Nat.le_refl _) _
set_option maxHeartbeats 2000000 in
theorem greatest_b (k n : Int) (s : ByteArray) (k2 n2 : Int) (s2 : ByteArray) (a : Option Addr) (cap : Nat) (W : World) (h : RVO W (.slice a 2 cap) [(k, n, s), (k2, n2, s2)]) (hF : Fit k n k2 n2) (hc : ¬ 0 ≤ ordV k n s k2 n2 s2) :
    Calls Tryz.prog 98 #[.slice a 2 cap] W fun e w' => Gives (fun V => V = Rd.tV k2 n2 s2 0) W e w' := by
  obtain ⟨g, o, rfl, hg, ⟨c0, c1, c2⟩, e0, e1, e2⟩ := two_cells h
  have bw0 := below_alloc W (.cells #[.int .i64 0, .int .i64 0, .string ⟨#[]⟩] 29)
  have d0 := (bw0.cell (p := ⟨g, o, none⟩) hg).trans c0
  have d1 := (bw0.cell (p := ⟨g, o + 1, none⟩) hg).trans c1
  have d2 := (bw0.cell (p := ⟨g, o + 2, none⟩) hg).trans c2
  have d3 := (bw0.cell (p := ⟨g, o + 3, none⟩) hg).trans e0
  have d4 := (bw0.cell (p := ⟨g, o + 3 + 1, none⟩) hg).trans e1
  have d5 := (bw0.cell (p := ⟨g, o + 3 + 2, none⟩) hg).trans e2
  have hcon := fun w => orderOf_any k n s k2 n2 s2 w hF
  generalize ordV k n s k2 n2 s2 = o_ at *
  have ho : decide (0 ≤ o_) = false := by simpa using hc
  clear h c0 c1 c2 e0 e1 e2 hF hc
  go_enter Tryz.func98, Tryz.ntmps98
  go_wp2
  go_region_with (go_at_call 59; refine (hcon _).mono ?_; rintro e w1 ⟨rfl, hb1⟩; replace hb1 := undrew hb1; obtain ⟨hc1, hf1⟩ := bcell hb1; have hz1 : W.heap.size < w1.heap.size := (by have := hb1.size; simp at this; omega); have bw1 : Below W.heap.size W w1 := bw0.trans (hb1.mono (by simp)); have b1' := fun (b o : Nat) (hb : b < W.heap.size) => (hc1 b o (by simp; omega)); have d0 := (hb1.cell (p := ⟨g, o, none⟩) (by show g < _; simp; omega)).trans d0; have d1 := (hb1.cell (p := ⟨g, o + 1, none⟩) (by show g < _; simp; omega)).trans d1; have d2 := (hb1.cell (p := ⟨g, o + 2, none⟩) (by show g < _; simp; omega)).trans d2; have d3 := (hb1.cell (p := ⟨g, o + 3, none⟩) (by show g < _; simp; omega)).trans d3; have d4 := (hb1.cell (p := ⟨g, o + 3 + 1, none⟩) (by show g < _; simp; omega)).trans d4; have d5 := (hb1.cell (p := ⟨g, o + 3 + 2, none⟩) (by show g < _; simp; omega)).trans d5)
  all_goals
    go_wp2
    refine bodyPost_ret (v := Rd.tV k2 n2 s2 0) (by simp [results, Tryz.results98, go_sem, Rd.tV, hc1, hf1, hz1]) rfl (Gives.mk rfl ?_)
    first | exact ((bw1.setCell (Nat.le_refl _) _).setCell (Nat.le_refl _) _).setCell (Nat.le_refl _) _ | exact ((bw1.drew.setCell (Nat.le_refl _) _).setCell (Nat.le_refl _) _).setCell (Nat.le_refl _) _
end Go.Proofs.YtdcdoeolaongkaaGreatDoor.Ca
