import Derived.Test.YtdcdoeolaongkaaGreatDoorE1
import Derived.Test.YtdcdoeolaongkaaGreatDoorU1
namespace Go.Proofs.YtdcdoeolaongkaaGreatDoor.Dr
open Go.ChangeShapes Go.WideShapes Go.ChangeAt Go.RowKit
set_option linter.unusedVariables false
set_option linter.unusedSimpArgs false
set_option maxRecDepth 100000
theorem in_wf {a : Int} (h1 : -9223372036854775808 ≤ a) (h2 : a ≤ 9223372036854775807) : (Lit.int .i64 a).wf = true := by
  have := wrap64_wf a
  rwa [show wrap64 a = a by unfold wrap64; omega] at this
theorem alloc_ints (w : World) (xs : List Int) (i : Nat) (h : i < xs.length) : (w.alloc (.cells (xs.map (Value.int .i64)).toArray 3)).cell? ⟨w.heap.size, i, none⟩ = some (.int .i64 (xs.getD i 0)) := by
  rw [World.cell?_alloc_at _ _ _ _ rfl]
  simp [List.getD, h]
theorem alloc_strs (w : World) (xs : List ByteArray) (i : Nat) (h : i < xs.length) : (w.alloc (.cells (xs.map Value.string).toArray 9)).cell? ⟨w.heap.size, i, none⟩ = some (.string (xs.getD i ByteArray.empty)) := by
  rw [World.cell?_alloc_at _ _ _ _ rfl]
  simp [List.getD, h]
theorem getD_all {α : Type} {P : α → Prop} {d : α} {xs : List α} (h : ∀ x ∈ xs, P x) (hd : P d) (i : Nat) : P (xs.getD i d) := by
  rw [List.getD]
  cases e : xs[i]? with
  | none => exact hd
  | some x => exact h x (List.mem_of_getElem? e)
theorem cur_alloc {w : World} {c : Nat} {A : Int} (h : IsCur w c A) (o : Obj) : IsCur (w.alloc o) c A :=
  h.below ((Below.refl _ w).alloc (Nat.le_refl _) o) h.lt
theorem upd_alloc (c : Nat) (w : World) (o : Obj) : Upd c w (w.alloc o) := Upd.of_below ((Below.refl _ w).alloc (Nat.le_refl _) o)
def ints16 : List Int := [0, 1, 2, 3, -1, 5, 7, 10, -4, 100, 12345, 9223372036854775807, -9223372036854775808, 3037000500, -3037000500, 99999999999999]
def decs16 : List Int := [0, 10000, 5000, 15000, -10000, -5000, 1, -1, 12345678, 33333, 999999999999999999, -999999999999999999, 99999999999999, 20000, 1000000000000, 25000]
/-- A drawn number. -/
def DrawnI (P : Int → Prop) (c : Nat) (A : Int) (w : World) (e : Ending) (w' : World) : Prop := ∃ x : Int, P x ∧ e = .returned (.int .i64 x) ∧ IsCur w' c A ∧ Upd c w w'
set_option maxHeartbeats 4000000 in
theorem drawInt_any (c : Nat) (A : Int) (w : World) (h : IsCur w c A) (hA : A ≤ 100000000) : Calls Tryz.prog 134 #[.pointer (some ⟨c, 0, none⟩)] w fun e w' => DrawnI (fun x => -9223372036854775808 ≤ x ∧ x ≤ 9223372036854775807) c (A + 2) w e w' := by
  have hlt := h.lt
  have hne : w.heap.size ≠ c := by omega
  have hP : ∀ i, -9223372036854775808 ≤ ints16.getD i 0 ∧ ints16.getD i 0 ≤ 9223372036854775807 := fun i => getD_all (P := fun x => -9223372036854775808 ≤ x ∧ x ≤ 9223372036854775807) (by decide) (by decide) i
  have HP := hP
  go_enter Tryz.func134, Tryz.ntmps134
  go_wp2_with fail
  refine (pick_any c A 16 _ (cur_alloc h _) (by omega) (by omega) (by omega)).mono ?_
  rintro e w1 ⟨r, r0, r1, rfl, hc1, hu1⟩
  have hcell : w1.cell? ⟨w.heap.size, r.toNat, none⟩ = some (.int .i64 (ints16.getD r.toNat 0)) := (hu1.cell (p := ⟨w.heap.size, r.toNat, none⟩) (by simp) hne).trans (alloc_ints w ints16 r.toNat (by show r.toNat < 16; omega))
  have hx := hP r.toNat
  clear hP HP
  generalize ints16.getD r.toNat 0 = x at *
  have HX : Hid (-9223372036854775808 ≤ x ∧ x ≤ 9223372036854775807) := hx
  clear hx
  go_wp2
  go_ret
  exact ⟨x, HX.out, rfl, hc1, (upd_alloc c w _).trans hu1⟩
set_option maxHeartbeats 4000000 in
theorem drawDec_any (c : Nat) (A : Int) (w : World) (h : IsCur w c A) (hA : A ≤ 100000000) : Calls Tryz.prog 135 #[.pointer (some ⟨c, 0, none⟩)] w fun e w' => DrawnI (fun x => -999999999999999999 ≤ x ∧ x ≤ 999999999999999999) c (A + 2) w e w' := by
  have hlt := h.lt
  have hne : w.heap.size ≠ c := by omega
  have hP : ∀ i, -999999999999999999 ≤ decs16.getD i 0 ∧ decs16.getD i 0 ≤ 999999999999999999 := fun i => getD_all (P := fun x => -999999999999999999 ≤ x ∧ x ≤ 999999999999999999) (by decide) (by decide) i
  go_enter Tryz.func135, Tryz.ntmps135
  go_wp2_with fail
  refine (pick_any c A 16 _ (cur_alloc h _) (by omega) (by omega) (by omega)).mono ?_
  rintro e w1 ⟨r, r0, r1, rfl, hc1, hu1⟩
  have hcell : w1.cell? ⟨w.heap.size, r.toNat, none⟩ = some (.int .i64 (decs16.getD r.toNat 0)) := (hu1.cell (p := ⟨w.heap.size, r.toNat, none⟩) (by simp) hne).trans (alloc_ints w decs16 r.toNat (by show r.toNat < 16; omega))
  have hx := hP r.toNat
  clear hP
  generalize decs16.getD r.toNat 0 = x at *
  have HX : Hid (-999999999999999999 ≤ x ∧ x ≤ 999999999999999999) := hx
  clear hx
  go_wp2
  go_ret
  exact ⟨x, HX.out, rfl, hc1, (upd_alloc c w _).trans hu1⟩
end Go.Proofs.YtdcdoeolaongkaaGreatDoor.Dr
