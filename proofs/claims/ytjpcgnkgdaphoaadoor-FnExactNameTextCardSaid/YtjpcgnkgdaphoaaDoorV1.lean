import Derived.Test.YtjpcgnkgdaphoaaDoorW2
import Derived.Test.YtjpcgnkgdaphoaaDoorP2
namespace Go.Proofs.YtjpcgnkgdaphoaaDoor
open Go.ChangeShapes Go.WideShapes Go.ChangeAt Go.RowKit Go.Shelf
set_option linter.unusedVariables false
set_option linter.unusedSimpArgs false
set_option maxRecDepth 100000
def Tabs (w : World) : Prop := Lib.Utf8Tabs (Tryd.laysValid_ren.g 3) (Tryd.laysValid_ren.g 4) w
theorem tabs_below {w w' : World} (h : Tabs w) (hb : Below w.heap.size w w') : Tabs w' := Utf8Tabs_below h hb
theorem below_alloc (w : World) (o : Obj) : Below w.heap.size w (w.alloc o) := (Below.refl _ w).alloc (Nat.le_refl _) o
theorem bcell {W w1 : World} (hb : Below W.heap.size W w1) : (∀ b o, b < W.heap.size → w1.cell? ⟨b, o, none⟩ = W.cell? ⟨b, o, none⟩) ∧ (∀ b o, b < W.heap.size → w1.frozen? ⟨b, o, none⟩ = W.frozen? ⟨b, o, none⟩) :=
  ⟨fun b o h => hb.cell (p := ⟨b, o, none⟩) h, fun b o h => hb.frozen (p := ⟨b, o, none⟩) h⟩
theorem valid_any (s : ByteArray) (w : World) (hs : s.size ≤ 9223372036854775807) (hT : Tabs w) : Calls Tryd.prog 46 #[.string s] w fun e w' => e = .returned (.bool (Lib.validD s.data.toList)) ∧ Below w.heap.size w w' :=
  Any.utf8_ValidString Tryd.laysValid s w hs hT
/-- Lower or upper: the closure's work on a character. -/
def shiftF (a b d : Int) (c : Int) : Int := if a ≤ c ∧ c ≤ b then c + d else c
set_option maxHeartbeats 400000 in
theorem shiftC_any (a b d : Int) (B : Nat) (x : Nat) (w : World) (hx : x ≤ 1114111) (hd : -1000 ≤ d) (hd2 : d ≤ 1000)
    (h1 : w.cell? ⟨B, 0, none⟩ = some (.int .i32 a)) (h2 : w.cell? ⟨B + 1, 0, none⟩ = some (.int .i32 b)) (h3 : w.cell? ⟨B + 2, 0, none⟩ = some (.int .i32 d)) :
    Calls Tryd.prog 56 #[.int .i32 x, .pointer (some ⟨B, 0, none⟩), .pointer (some ⟨B + 1, 0, none⟩), .pointer (some ⟨B + 2, 0, none⟩)] w fun e w' => e = .returned (.int .i32 (shiftF a b d x)) ∧ w' = w := by
  by_cases g1 : a ≤ (x : Int)
  · by_cases g2 : (x : Int) ≤ b
    · go_enter Tryd.func56, Tryd.ntmps56
      go_wp2
      go_ret
      refine ⟨ret_int ?_, rfl⟩
      unfold shiftF; rw [if_pos ⟨g1, g2⟩]
    · go_enter Tryd.func56, Tryd.ntmps56
      go_wp2
      go_ret
      refine ⟨ret_int ?_, rfl⟩
      unfold shiftF; rw [if_neg (by omega)]
  · go_enter Tryd.func56, Tryd.ntmps56
    go_wp2
    go_ret
    refine ⟨ret_int ?_, rfl⟩
    unfold shiftF; rw [if_neg (by omega)]
theorem textValue_any (s : ByteArray) (w : World) : Calls Tryd.prog 54 #[.string s] w fun e w' => e = .returned (.agg #[.int .i64 3, .int .i64 0, .string s]) ∧ Below w.heap.size w w' := by
  go_enter Tryd.func54, Tryd.ntmps54
  go_wp2
  exact bodyPost_ret (v := .agg #[.int .i64 3, .int .i64 0, .string s]) (by simp [results, Tryd.results54, go_sem]) rfl ⟨rfl, (Below.refl _ _).alloc (Nat.le_refl _) _⟩
theorem mapGrows_of (a b d : Int) (B : Nat) (W : World) (hd : -1000 ≤ d) (hd2 : d ≤ 1000) (hB : B + 2 < W.heap.size)
    (h1 : W.cell? ⟨B, 0, none⟩ = some (.int .i32 a)) (h2 : W.cell? ⟨B + 1, 0, none⟩ = some (.int .i32 b)) (h3 : W.cell? ⟨B + 2, 0, none⟩ = some (.int .i32 d)) :
    MapGrows Tryd.prog 56 #[.pointer (some ⟨B, 0, none⟩), .pointer (some ⟨B + 1, 0, none⟩), .pointer (some ⟨B + 2, 0, none⟩)] (shiftF a b d) W := by
  intro W' x hx hb
  have c1 := (hb.cell (p := ⟨B, 0, none⟩) (by show B < _; omega)).trans h1
  have c2 := (hb.cell (p := ⟨B + 1, 0, none⟩) (by show B + 1 < _; omega)).trans h2
  have c3 := (hb.cell (p := ⟨B + 2, 0, none⟩) (by show B + 2 < _; omega)).trans h3
  refine (shiftC_any a b d B x W' hx hd hd2 c1 c2 c3).mono ?_
  rintro e w' ⟨rfl, rfl⟩
  exact ⟨rfl, Below.refl _ _⟩
set_option maxHeartbeats 800000 in
theorem shifted_any (s : ByteArray) (a b d : Int) (w : World) (hs : s.size < 35184372088832) (hd : -1000 ≤ d) (hd2 : d ≤ 1000) (hT : Tabs w) :
    Calls Tryd.prog 42 #[.string s, .int .i32 a, .int .i32 b, .int .i32 d] w fun e w' => e = .returned (.agg #[.int .i64 3, .int .i64 0, .string ⟨(Lib.mapD (shiftF a b d) s.data.toList).toArray⟩]) ∧ Below w.heap.size w w' := by
  have eg : ∀ args w, (callFunc 56 args).run Tryd.prog w = .ok (.enter 56 args) w := enters_of Tryd.func56 (by kernel_rfl) rfl
  have hm := fun W (hB : w.heap.size + 2 < W.heap.size) h1 h2 h3 (hT : Tabs W) => Tryd.strings_Map_grows 56 _ eg (shiftF a b d) s W hs (mapGrows_of a b d w.heap.size W hd hd2 hB h1 h2 h3) (fun x hx => by unfold shiftF; split <;> omega) hT
  have hT4 : ∀ o1 o2 o3 o4, Tabs ((((w.alloc o1).alloc o2).alloc o3).alloc o4) := fun o1 o2 o3 o4 => tabs_below (tabs_below (tabs_below (tabs_below hT (below_alloc _ _)) (below_alloc _ _)) (below_alloc _ _)) (below_alloc _ _)
  go_enter Tryd.func42, Tryd.ntmps42
  go_wp2_with (go_at_call 55; refine Calls.mono (hm _ (by simp) (by go_simp) (by go_simp) (by go_simp) (hT4 _ _ _ _)) ?_; rintro e w1 ⟨rfl, hb1⟩; obtain ⟨hc1, hf1⟩ := bcell hb1; have hz1 : w.heap.size + 3 < w1.heap.size := (by have := hb1.size; simp at this; omega); have bw1 : Below w.heap.size w w1 := (((((Below.refl _ _).alloc (Nat.le_refl _) _).alloc (by simp) _).alloc (by simp; omega) _).alloc (by simp; omega) _).trans (hb1.mono (by simp; omega)); clear hb1)
  refine (textValue_any _ _).mono ?_
  rintro e w2 ⟨rfl, hb2⟩
  obtain ⟨hc2, hf2⟩ := bcell hb2
  have hz2 : w.heap.size + 3 < w2.heap.size := by have := hb2.size; omega
  have bw2 : Below w.heap.size w w2 := bw1.trans (hb2.mono (by have := bw1.size; omega))
  go_wp2
  refine bodyPost_ret (v := .agg #[.int .i64 3, .int .i64 0, .string ⟨(Lib.mapD (shiftF a b d) s.data.toList).toArray⟩]) (by simp [results, Tryd.results42, go_sem, hc1, hf1, hz1, hc2, hf2, hz2]) rfl ⟨rfl, ?_⟩
  exact ((bw2.setCell (by show w.heap.size ≤ w.heap.size + 3; omega) _).setCell (by show w.heap.size ≤ w.heap.size + 3; omega) _).setCell (by show w.heap.size ≤ w.heap.size + 3; omega) _
end Go.Proofs.YtjpcgnkgdaphoaaDoor
