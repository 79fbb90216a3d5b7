import Derived.Test.YtghdjagomdgnfaaDoorHAC
import Derived.Test.YtghdjagomdgnfaaDoorHAA
import Derived.Deep.RegionWith
import Derived.Deep.QuietTactic
import Derived.BigQuiet
namespace Go.Proofs.YtghdjagomdgnfaaDoor
open Go.ChangeShapes Go.WideShapes Go.ChangeAt Go.RowKit
set_option linter.unusedVariables false
set_option linter.unusedSimpArgs false
set_option maxRecDepth 100000
/-- A set of operations with one more. -/
def addOp (s x : Int) : Int := bits .or .u64 s (IntKind.u64.wrap (2 ^ x.toNat))
def setI (ops : List Int) : Int := ops.foldl addOp 0
theorem setI_step {ops : List Int} {k : Nat} (h : k < ops.length) : setI (ops.take (k + 1)) = addOp (setI (ops.take k)) ops[k] := by
  unfold setI
  rw [List.take_add_one, List.getElem?_eq_getElem h, List.foldl_append]
  rfl
set_option maxHeartbeats 1600000 in
theorem setOf_any (ops : List Int) (v : Value) (w : World) (hn : ops.length ≤ 1048576) (hr : ∀ x ∈ ops, 0 ≤ x ∧ x ≤ 64) (hv : RI w v ops) :
    Calls Tryd.prog 76 #[v] w fun e w' => e = .returned (.int .u64 (setI ops)) ∧ w' = w := by
  obtain ⟨a, cap, rfl, hcells⟩ := hv
  go_enter Tryd.func76, Tryd.ntmps76
  go_wp2
  go_loopw [3, 8] (fun r i wr => ∃ (k : Nat), k ≤ ops.length ∧ i = .int .i64 k ∧ r = .int .u64 (setI (ops.take k)) ∧ wr = w) (fun _ i _ => ops.length - (intOf i).toNat)
  case atStart => exact ⟨0, Nat.zero_le _, rfl, rfl, rfl⟩
  case round =>
    obtain ⟨k, hk, rfl, rfl, rfl⟩ := hrel
    by_cases hlt : k < ops.length
    · have hlti : (k : Int) < ops.length := by omega
      obtain ⟨g, o, rfl, hg, hgc⟩ := hcells (by omega)
      have c0 := hgc k hlt
      obtain ⟨r0, r1⟩ := hr _ (List.getElem_mem hlt)
      have HS : Hid (setI (ops.take (k + 1)) = addOp (setI (ops.take k)) ops[k]) := setI_step hlt
      clear hgc hcells
      generalize ops[k] = x at *
      generalize setI (ops.take k) = s at *
      go_wp2
      go_roundw
      case rel => exact ⟨k + 1, by omega, by go_num, by rw [HS.out]; rfl, by first | rfl | trivial⟩
      case measure => simp [intOf]; omega
    · have hkn : k = ops.length := by omega
      subst hkn
      have hlti : ¬ (ops.length : Int) < ops.length := by omega
      rw [List.take_length]
      go_wp2
      go_ret
      exact ⟨rfl, rfl⟩
/-- The parts of a form. -/
def RP (w : World) (v : Value) (ps : List (Int × Int × Int)) : Prop :=
  ∃ a cap, v = .slice a ps.length cap ∧ (0 < ps.length → ∃ g o, a = some ⟨g, o, none⟩ ∧ g < w.heap.size ∧ ∀ i (h : i < ps.length), w.cell? ⟨g, o + i * 3, none⟩ = some (.int .u64 ps[i].1) ∧ w.cell? ⟨g, o + i * 3 + 1, none⟩ = some (.int .i64 ps[i].2.1) ∧ w.cell? ⟨g, o + i * 3 + 2, none⟩ = some (.int .i64 ps[i].2.2))
theorem RP.below {w w' : World} {v : Value} {ks : List (Int × Int × Int)} (h : RP w v ks) (hb : Below w.heap.size w w') : RP w' v ks := by
  obtain ⟨a, cap, rfl, h2⟩ := h
  refine ⟨a, cap, rfl, fun hp => ?_⟩
  obtain ⟨g, o, ha, hg, hc⟩ := h2 hp
  exact ⟨g, o, ha, Nat.lt_of_lt_of_le hg hb.size, fun i hi => ⟨(hb.cell (p := ⟨g, o + i * 3, none⟩) hg).trans (hc i hi).1, (hb.cell (p := ⟨g, o + i * 3 + 1, none⟩) hg).trans (hc i hi).2.1, (hb.cell (p := ⟨g, o + i * 3 + 2, none⟩) hg).trans (hc i hi).2.2⟩⟩
/-- A form. -/
structure FD where
  nm : Int
  ql : Int
  ln : Int
  mn : Int
  lm : Int
  mm : Int
  kids : List (Int × Int × Int)
def formV (f : FD) (v : Value) : Value := .agg #[.int .i64 f.nm, .int .i64 f.ql, .int .i64 f.ln, .int .i64 f.mn, .int .i64 f.lm, .int .i64 f.mm, v]
def FormP (f : FD) (b : Bool) (w : World) (e : Ending) (w' : World) : Prop := ∃ v, e = .returned (.tuple #[formV f v, .bool b]) ∧ RP w' v f.kids ∧ Below w.heap.size w w'
theorem ri1 (w : World) (x : Int) (n b : Nat) (hb : b = w.heap.size) : RI (w.alloc (.cells #[.int .i64 x] n)) (.slice (some ⟨b, 0, none⟩) 1 1) [x] :=
  ⟨_, _, rfl, fun _ => ⟨b, 0, rfl, by simp [hb], fun i hi => by
    have : i = 0 := by simp at hi; omega
    subst this; simp [hb]⟩⟩
theorem ri2 (w : World) (x y : Int) (n b : Nat) (hb : b = w.heap.size) : RI (w.alloc (.cells #[.int .i64 x, .int .i64 y] n)) (.slice (some ⟨b, 0, none⟩) 2 2) [x, y] :=
  ⟨_, _, rfl, fun _ => ⟨b, 0, rfl, by simp [hb], fun i hi => by
    match i, hi with
    | 0, _ => simp [hb]
    | 1, _ => simp [hb]⟩⟩
theorem ri3 (w : World) (x y z : Int) (n b : Nat) (hb : b = w.heap.size) : RI (w.alloc (.cells #[.int .i64 x, .int .i64 y, .int .i64 z] n)) (.slice (some ⟨b, 0, none⟩) 3 3) [x, y, z] :=
  ⟨_, _, rfl, fun _ => ⟨b, 0, rfl, by simp [hb], fun i hi => by
    match i, hi with
    | 0, _ => simp [hb]
    | 1, _ => simp [hb]
    | 2, _ => simp [hb]⟩⟩
theorem ri4 (w : World) (x y z u : Int) (n b : Nat) (hb : b = w.heap.size) : RI (w.alloc (.cells #[.int .i64 x, .int .i64 y, .int .i64 z, .int .i64 u] n)) (.slice (some ⟨b, 0, none⟩) 4 4) [x, y, z, u] :=
  ⟨_, _, rfl, fun _ => ⟨b, 0, rfl, by simp [hb], fun i hi => by
    match i, hi with
    | 0, _ => simp [hb]
    | 1, _ => simp [hb]
    | 2, _ => simp [hb]
    | 3, _ => simp [hb]⟩⟩
end Go.Proofs.YtghdjagomdgnfaaDoor
namespace Go.Proofs.YtghdjagomdgnfaaDoor
open Go.ChangeShapes Go.WideShapes Go.ChangeAt Go.RowKit
set_option linter.unusedVariables false
set_option linter.unusedSimpArgs false
set_option maxRecDepth 100000
def PartP (S a b : Int) (w : World) (e : Ending) (w' : World) : Prop := e = .returned (.agg #[.int .u64 S, .int .i64 a, .int .i64 b]) ∧ Below w.heap.size w w'
theorem expressions_any (a b : Int) (w : World) : Calls Tryd.prog 93 #[.int .i64 a, .int .i64 b] w fun e w' => PartP 262142 a b w e w' := by
  go_enter Tryd.func93, Tryd.ntmps93
  go_wp2
  refine bodyPost_ret (v := .agg #[.int .u64 262142, .int .i64 a, .int .i64 b]) (by simp [results, Tryd.results93, go_sem]) rfl ⟨rfl, ?_⟩
  exact (by (go_light; repeat (first | with_reducible assumption | with_reducible exact Below.refl _ _ | (with_reducible refine Below.setCell ?_ ?_ _; rotate_left; (focus first | (simp; done) | (simp; omega) | omega)) | (with_reducible refine Below.alloc ?_ ?_ _; rotate_left; (focus first | (simp; done) | (simp; omega) | omega)) | with_reducible refine Below.drew ?_)))
theorem oneOf_any (ops : List Int) (v : Value) (w : World) (hn : ops.length ≤ 1048576) (hr : ∀ x ∈ ops, 0 ≤ x ∧ x ≤ 64) (hv : RI w v ops) : Calls Tryd.prog 94 #[v] w fun e w' => PartP (setI ops) 1 1 w e w' := by
  go_enter Tryd.func94, Tryd.ntmps94
  go_wp2_with (go_at_call 76; refine (setOf_any ops v _ hn hr (hv.below (below_alloc _ _))).mono ?_; rintro e w1 ⟨rfl, rfl⟩)
  refine bodyPost_ret (v := .agg #[.int .u64 (setI ops), .int .i64 1, .int .i64 1]) (by simp [results, Tryd.results94, go_sem]) rfl ⟨rfl, ?_⟩
  exact (by (go_light; repeat (first | with_reducible assumption | with_reducible exact Below.refl _ _ | (with_reducible refine Below.setCell ?_ ?_ _; rotate_left; (focus first | (simp; done) | (simp; omega) | omega)) | (with_reducible refine Below.alloc ?_ ?_ _; rotate_left; (focus first | (simp; done) | (simp; omega) | omega)) | with_reducible refine Below.drew ?_)))
theorem manyOf_any (ops : List Int) (v : Value) (w : World) (hn : ops.length ≤ 1048576) (hr : ∀ x ∈ ops, 0 ≤ x ∧ x ≤ 64) (hv : RI w v ops) : Calls Tryd.prog 95 #[v] w fun e w' => PartP (setI ops) 1 6000 w e w' := by
  go_enter Tryd.func95, Tryd.ntmps95
  go_wp2_with (go_at_call 76; refine (setOf_any ops v _ hn hr (hv.below (below_alloc _ _))).mono ?_; rintro e w1 ⟨rfl, rfl⟩)
  refine bodyPost_ret (v := .agg #[.int .u64 (setI ops), .int .i64 1, .int .i64 6000]) (by simp [results, Tryd.results95, go_sem]) rfl ⟨rfl, ?_⟩
  exact (by (go_light; repeat (first | with_reducible assumption | with_reducible exact Below.refl _ _ | (with_reducible refine Below.setCell ?_ ?_ _; rotate_left; (focus first | (simp; done) | (simp; omega) | omega)) | (with_reducible refine Below.alloc ?_ ?_ _; rotate_left; (focus first | (simp; done) | (simp; omega) | omega)) | with_reducible refine Below.drew ?_)))
theorem perhapsOne_any (op : Int) (w : World) (h0 : 0 ≤ op) (h1 : op ≤ 64) : Calls Tryd.prog 96 #[.int .i64 op] w fun e w' => PartP (setI [op]) 0 1 w e w' := by
  go_enter Tryd.func96, Tryd.ntmps96
  go_wp2_with (go_at_call 76; refine (setOf_any [op] _ _ (by simp) (fun x hx => by rw [List.mem_singleton] at hx; subst hx; exact ⟨h0, h1⟩) ?_).mono ?_; exact ri1 _ _ _ _ (by simp); rintro e w1 ⟨rfl, rfl⟩)
  refine bodyPost_ret (v := .agg #[.int .u64 (setI [op]), .int .i64 0, .int .i64 1]) (by simp [results, Tryd.results96, go_sem]) rfl ⟨rfl, ?_⟩
  exact (by (go_light; repeat (first | with_reducible assumption | with_reducible exact Below.refl _ _ | (with_reducible refine Below.setCell ?_ ?_ _; rotate_left; (focus first | (simp; done) | (simp; omega) | omega)) | (with_reducible refine Below.alloc ?_ ?_ _; rotate_left; (focus first | (simp; done) | (simp; omega) | omega)) | with_reducible refine Below.drew ?_)))
/-- The parts of a form, in a block from B on. -/
def RPX (B : Nat) (w : World) (v : Value) (ps : List (Int × Int × Int)) : Prop :=
  ∃ a cap, v = .slice a ps.length cap ∧ (0 < ps.length → ∃ g o, a = some ⟨g, o, none⟩ ∧ B ≤ g ∧ g < w.heap.size ∧ ∀ i (h : i < ps.length), w.cell? ⟨g, o + i * 3, none⟩ = some (.int .u64 ps[i].1) ∧ w.cell? ⟨g, o + i * 3 + 1, none⟩ = some (.int .i64 ps[i].2.1) ∧ w.cell? ⟨g, o + i * 3 + 2, none⟩ = some (.int .i64 ps[i].2.2))
theorem RPX.rp {B : Nat} {w : World} {v : Value} {ps : List (Int × Int × Int)} (h : RPX B w v ps) : RP w v ps := by
  obtain ⟨a, cap, rfl, h2⟩ := h
  exact ⟨a, cap, rfl, fun hp => let ⟨g, o, ha, _, hg, hc⟩ := h2 hp; ⟨g, o, ha, hg, hc⟩⟩
theorem RPX.set {B c j : Nat} {w : World} {v u : Value} {ps : List (Int × Int × Int)} (h : RPX B w v ps) (hc : c < B) : RPX B (w.setCell ⟨c, j, none⟩ u) v ps := by
  obtain ⟨a, cap, rfl, h2⟩ := h
  refine ⟨a, cap, rfl, fun hp => ?_⟩
  obtain ⟨g, o, ha, hB, hg, hc'⟩ := h2 hp
  refine ⟨g, o, ha, hB, by simpa using hg, fun i hi => ?_⟩
  rw [World.cell?_setCell_other w ⟨c, j, none⟩ ⟨g, o + i * 3, none⟩ u (fun e => by cases e; omega), World.cell?_setCell_other w ⟨c, j, none⟩ ⟨g, o + i * 3 + 1, none⟩ u (fun e => by cases e; omega), World.cell?_setCell_other w ⟨c, j, none⟩ ⟨g, o + i * 3 + 2, none⟩ u (fun e => by cases e; omega)]
  exact hc' i hi
def TabP (f : FD) (w : World) (e : Ending) (w' : World) : Prop := ∃ v, e = .returned (formV f v) ∧ RPX w.heap.size w' v f.kids ∧ Below w.heap.size w w'
end Go.Proofs.YtghdjagomdgnfaaDoor
namespace Go.Proofs.YtghdjagomdgnfaaDoor
open Go.ChangeShapes Go.WideShapes Go.ChangeAt Go.RowKit
set_option linter.unusedVariables false
set_option linter.unusedSimpArgs false
set_option maxRecDepth 100000
/-- Parts in a block from B on. -/
def RPB (B : Nat) (w : World) (v : Value) (ps : List (Int × Int × Int)) : Prop :=
  ∃ g n, v = .slice (some ⟨g, 0, none⟩) ps.length n ∧ B ≤ g ∧ g < w.heap.size ∧ ∀ i (h : i < ps.length), w.cell? ⟨g, i * 3, none⟩ = some (.int .u64 ps[i].1) ∧ w.cell? ⟨g, i * 3 + 1, none⟩ = some (.int .i64 ps[i].2.1) ∧ w.cell? ⟨g, i * 3 + 2, none⟩ = some (.int .i64 ps[i].2.2)
theorem RPB.rp {B : Nat} {w : World} {v : Value} {ps : List (Int × Int × Int)} (h : RPB B w v ps) : RP w v ps := by
  obtain ⟨g, n, rfl, _, hg, hc⟩ := h
  exact ⟨_, _, rfl, fun _ => ⟨g, 0, rfl, hg, by simpa using hc⟩⟩
theorem RPB.rpx {B : Nat} {w : World} {v : Value} {ps : List (Int × Int × Int)} (h : RPB B w v ps) : RPX B w v ps := by
  obtain ⟨g, n, rfl, hB, hg, hc⟩ := h
  exact ⟨_, _, rfl, fun _ => ⟨g, 0, rfl, hB, hg, by simpa using hc⟩⟩
theorem RPB.set {B c j : Nat} {w : World} {v u : Value} {ps : List (Int × Int × Int)} (h : RPB B w v ps) (hc : c < B) : RPB B (w.setCell ⟨c, j, none⟩ u) v ps := by
  obtain ⟨g, n, rfl, hB, hg, hc'⟩ := h
  refine ⟨g, n, rfl, hB, by simpa using hg, fun i hi => ?_⟩
  rw [World.cell?_setCell_other w ⟨c, j, none⟩ ⟨g, i * 3, none⟩ u (fun e => by cases e; omega), World.cell?_setCell_other w ⟨c, j, none⟩ ⟨g, i * 3 + 1, none⟩ u (fun e => by cases e; omega), World.cell?_setCell_other w ⟨c, j, none⟩ ⟨g, i * 3 + 2, none⟩ u (fun e => by cases e; omega)]
  exact hc' i hi
theorem rp1 (w : World) (S0 l0 m0 : Int) (n b B : Nat) (hb : b = w.heap.size) (hB : B ≤ b) : RPB B (w.alloc (.cells #[.int .u64 S0, .int .i64 l0, .int .i64 m0] n)) (.slice (some ⟨b, 0, none⟩) 1 1) [(S0, l0, m0)] :=
  ⟨b, _, rfl, hB, by simp [hb], fun i hi => by
    match i, hi with
    | 0, _ => simp [hb]⟩
theorem rp2 (w : World) (S0 l0 m0 S1 l1 m1 : Int) (n b B : Nat) (hb : b = w.heap.size) (hB : B ≤ b) : RPB B (w.alloc (.cells #[.int .u64 S0, .int .i64 l0, .int .i64 m0, .int .u64 S1, .int .i64 l1, .int .i64 m1] n)) (.slice (some ⟨b, 0, none⟩) 2 2) [(S0, l0, m0), (S1, l1, m1)] :=
  ⟨b, _, rfl, hB, by simp [hb], fun i hi => by
    match i, hi with
    | 0, _ => simp [hb]
    | 1, _ => simp [hb]⟩
theorem rp3 (w : World) (S0 l0 m0 S1 l1 m1 S2 l2 m2 : Int) (n b B : Nat) (hb : b = w.heap.size) (hB : B ≤ b) : RPB B (w.alloc (.cells #[.int .u64 S0, .int .i64 l0, .int .i64 m0, .int .u64 S1, .int .i64 l1, .int .i64 m1, .int .u64 S2, .int .i64 l2, .int .i64 m2] n)) (.slice (some ⟨b, 0, none⟩) 3 3) [(S0, l0, m0), (S1, l1, m1), (S2, l2, m2)] :=
  ⟨b, _, rfl, hB, by simp [hb], fun i hi => by
    match i, hi with
    | 0, _ => simp [hb]
    | 1, _ => simp [hb]
    | 2, _ => simp [hb]⟩
theorem rp5 (w : World) (S0 l0 m0 S1 l1 m1 S2 l2 m2 S3 l3 m3 S4 l4 m4 : Int) (n b B : Nat) (hb : b = w.heap.size) (hB : B ≤ b) : RPB B (w.alloc (.cells #[.int .u64 S0, .int .i64 l0, .int .i64 m0, .int .u64 S1, .int .i64 l1, .int .i64 m1, .int .u64 S2, .int .i64 l2, .int .i64 m2, .int .u64 S3, .int .i64 l3, .int .i64 m3, .int .u64 S4, .int .i64 l4, .int .i64 m4] n)) (.slice (some ⟨b, 0, none⟩) 5 5) [(S0, l0, m0), (S1, l1, m1), (S2, l2, m2), (S3, l3, m3), (S4, l4, m4)] :=
  ⟨b, _, rfl, hB, by simp [hb], fun i hi => by
    match i, hi with
    | 0, _ => simp [hb]
    | 1, _ => simp [hb]
    | 2, _ => simp [hb]
    | 3, _ => simp [hb]
    | 4, _ => simp [hb]⟩
/-- A form that is still empty, in a block. -/
structure Z7 (w : World) (b : Nat) : Prop where
  c0 : w.cell? ⟨b, 0, none⟩ = some (.int .i64 0)
  f0 : w.frozen? ⟨b, 0, none⟩ = false
  c1 : w.cell? ⟨b, 1, none⟩ = some (.int .i64 0)
  f1 : w.frozen? ⟨b, 1, none⟩ = false
  c2 : w.cell? ⟨b, 2, none⟩ = some (.int .i64 0)
  f2 : w.frozen? ⟨b, 2, none⟩ = false
  c3 : w.cell? ⟨b, 3, none⟩ = some (.int .i64 0)
  f3 : w.frozen? ⟨b, 3, none⟩ = false
  c4 : w.cell? ⟨b, 4, none⟩ = some (.int .i64 0)
  f4 : w.frozen? ⟨b, 4, none⟩ = false
  c5 : w.cell? ⟨b, 5, none⟩ = some (.int .i64 0)
  f5 : w.frozen? ⟨b, 5, none⟩ = false
  c6 : w.cell? ⟨b, 6, none⟩ = some (.slice none 0 0)
  f6 : w.frozen? ⟨b, 6, none⟩ = false
theorem Z7.start (w : World) (n b : Nat) (hb : b = w.heap.size) : Z7 (w.alloc (.cells #[.int .i64 0, .int .i64 0, .int .i64 0, .int .i64 0, .int .i64 0, .int .i64 0, .slice none 0 0] n)) b := by
  subst hb
  constructor <;> simp [go_sem]
theorem Z7.below {w w' : World} {B b : Nat} (h : Z7 w b) (hb : Below B w w') (hg : b < B) : Z7 w' b :=
  ⟨(hb.cell (p := ⟨b, 0, none⟩) hg).trans h.c0, (hb.frozen (p := ⟨b, 0, none⟩) hg).trans h.f0, (hb.cell (p := ⟨b, 1, none⟩) hg).trans h.c1, (hb.frozen (p := ⟨b, 1, none⟩) hg).trans h.f1, (hb.cell (p := ⟨b, 2, none⟩) hg).trans h.c2, (hb.frozen (p := ⟨b, 2, none⟩) hg).trans h.f2, (hb.cell (p := ⟨b, 3, none⟩) hg).trans h.c3, (hb.frozen (p := ⟨b, 3, none⟩) hg).trans h.f3, (hb.cell (p := ⟨b, 4, none⟩) hg).trans h.c4, (hb.frozen (p := ⟨b, 4, none⟩) hg).trans h.f4, (hb.cell (p := ⟨b, 5, none⟩) hg).trans h.c5, (hb.frozen (p := ⟨b, 5, none⟩) hg).trans h.f5, (hb.cell (p := ⟨b, 6, none⟩) hg).trans h.c6, (hb.frozen (p := ⟨b, 6, none⟩) hg).trans h.f6⟩
theorem Z7.alloc {w : World} {b : Nat} (h : Z7 w b) (hg : b < w.heap.size) (o : Obj) : Z7 (w.alloc o) b := h.below (below_alloc w o) hg
end Go.Proofs.YtghdjagomdgnfaaDoor
namespace Go.Proofs.YtghdjagomdgnfaaDoor
open Go.ChangeShapes Go.WideShapes Go.ChangeAt Go.RowKit
set_option linter.unusedVariables false
set_option linter.unusedSimpArgs false
set_option maxRecDepth 100000
open K
/-- Whether a set has an operation. -/
def hasOp (S x : Int) : Bool := bits .and .u64 S (setI [x]) != 0
/-- How many stand ahead that a set has, n at most. -/
def lead (S : Int) : List Int → Nat → Nat
  | _, 0 => 0
  | [], _ + 1 => 0
  | x :: xs, n + 1 => if hasOp S x then lead S xs n + 1 else 0
def fit : List Int → List (Int × Int × Int) → Bool
  | ops, [] => ops.isEmpty
  | ops, (S, l, m) :: ps => if ((lead S ops m.toNat : Nat) : Int) < l then false else fit (ops.drop (lead S ops m.toNat)) ps
theorem lead_le (S : Int) : ∀ (ops : List Int) (n : Nat), lead S ops n ≤ ops.length
  | ops, 0 => by cases ops <;> simp [lead]
  | [], _ + 1 => Nat.zero_le _
  | x :: xs, n + 1 => by
    unfold lead
    split
    · have := lead_le S xs n
      simp; omega
    · exact Nat.zero_le _
theorem lead_go {S : Int} : ∀ {ops : List Int} {n c : Nat} (hc : c < ops.length) (hn : c < n), (∀ i (h : i < ops.length), i < c → hasOp S ops[i] = true) → hasOp S ops[c] = false → lead S ops n = c
  | [], _, _, hc, _, _, _ => by simp at hc
  | x :: xs, 0, _, _, hn, _, _ => by omega
  | x :: xs, n + 1, 0, _, _, _, hf => by
    have : hasOp S x = false := hf
    unfold lead; rw [this]; rfl
  | x :: xs, n + 1, c + 1, hc, hn, ha, hf => by
    have hx : hasOp S x = true := ha 0 (by simp) (by omega)
    unfold lead
    rw [hx]
    simp only [if_true]
    rw [lead_go (c := c) (by simpa using hc) (by omega) (fun i h hi => ha (i + 1) (by simpa using h) (by omega)) (by simpa using hf)]
theorem lead_end {S : Int} : ∀ {ops : List Int} {n c : Nat} (hc : c ≤ ops.length) (hn : c ≤ n) (he : c = ops.length ∨ c = n), (∀ i (h : i < ops.length), i < c → hasOp S ops[i] = true) → lead S ops n = c
  | ops, 0, c, hc, hn, _, _ => by
    have : c = 0 := by omega
    subst this; cases ops <;> rfl
  | [], n + 1, c, hc, _, _, _ => by
    have : c = 0 := by simpa using hc
    subst this; rfl
  | x :: xs, n + 1, 0, _, _, he, _ => by simp at he
  | x :: xs, n + 1, c + 1, hc, hn, he, ha => by
    have hx : hasOp S x = true := ha 0 (by simp) (by omega)
    unfold lead
    rw [hx]
    simp only [if_true]
    rw [lead_end (c := c) (by simpa using hc) (by omega) (by simpa using he) (fun i h hi => ha (i + 1) (by simpa using h) (by omega))]
end Go.Proofs.YtghdjagomdgnfaaDoor
