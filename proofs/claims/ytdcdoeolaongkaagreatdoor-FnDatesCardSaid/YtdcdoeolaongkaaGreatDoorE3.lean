import Derived.Test.YtdcdoeolaongkaaGreatDoorE2
namespace Go.Proofs.YtdcdoeolaongkaaGreatDoor.Dr
open Go.ChangeShapes Go.WideShapes Go.ChangeAt Go.RowKit
set_option linter.unusedVariables false
set_option linter.unusedSimpArgs false
set_option maxRecDepth 100000
def strs18 : List ByteArray := [⟨#[97]⟩, ⟨#[98]⟩, ⟨#[65]⟩, ⟨#[32]⟩, ⟨#[37]⟩, ⟨#[95]⟩, ⟨#[92]⟩, ⟨#[39]⟩, ⟨#[195, 169]⟩, ⟨#[230, 176, 180]⟩, ⟨#[45, 49, 50]⟩, ⟨#[51, 46, 53]⟩, ⟨#[116, 114, 117, 101]⟩, ⟨#[50, 48, 50, 48, 45, 48, 50, 45, 50, 57]⟩, ⟨#[240, 159, 152, 128]⟩, ⟨#[120, 121, 122]⟩, ⟨#[48]⟩, ⟨#[57]⟩]
theorem strs18_size (i : Nat) : (strs18.getD i ByteArray.empty).size ≤ 12 := getD_all (P := fun t : ByteArray => t.size ≤ 12) (by decide) (by decide) i
/-- A drawn text, short. -/
def DrawnS (L : Nat) (c : Nat) (A : Int) (w : World) (e : Ending) (w' : World) : Prop := ∃ s : ByteArray, s.size ≤ L ∧ e = .returned (.string s) ∧ IsCur w' c A ∧ Upd c w w'
set_option maxHeartbeats 4000000 in
theorem drawText_any (c : Nat) (A : Int) (w : World) (h : IsCur w c A) (hA : A ≤ 10000000) : Calls Tryz.prog 136 #[.pointer (some ⟨c, 0, none⟩)] w fun e w' => DrawnS 60 c (A + 20) w e w' := by
  have hlt := h.lt
  have hne : w.heap.size ≠ c := by omega
  go_enter Tryz.func136, Tryz.ntmps136
  go_wp2_with fail
  refine (pick_any c A 5 _ (cur_alloc h _) (by omega) (by omega) (by omega)).mono ?_
  rintro e w1 ⟨r, r0, r1, rfl, hc1, hu1⟩
  have hl : ∀ i, i < 18 → w1.cell? ⟨w.heap.size, i, none⟩ = some (.string (strs18.getD i ByteArray.empty)) := fun i hi => (hu1.cell (p := ⟨w.heap.size, i, none⟩) (by simp) hne).trans (alloc_strs w strs18 i hi)
  have hz1 : w.heap.size < w1.heap.size := by have := hu1.size; simp at this; omega
  have HL : Hid (∀ i, i < 18 → w1.cell? ⟨w.heap.size, i, none⟩ = some (.string (strs18.getD i ByteArray.empty))) := hl
  have HU : Hid (Upd c w w1) := (upd_alloc c w _).trans hu1
  have HC1 : Hid (IsCur w1 c (A + 2)) := hc1
  clear hl hu1 hc1 h
  go_wp2
  go_loopw [4, 5] (fun o k wr => ∃ (m : Nat) (s : ByteArray), m ≤ 4 ∧ k = .int .i64 m ∧ o = .string s ∧ s.size + 12 * m ≤ 48 ∧ IsCur wr c (A + 2 + 2 * (4 - (m : Int))) ∧ Upd c w1 wr) (fun _ k _ => (intOf k).toNat)
  case atStart => exact ⟨r.toNat, ByteArray.empty, by omega, by go_num, rfl, by show 0 + 12 * r.toNat ≤ 48; omega, HC1.out.mono (by omega), Upd.refl _ _⟩
  case round =>
    obtain ⟨m, s, hm, rfl, rfl, hs, hcr, hur⟩ := hrel
    by_cases h0 : 0 < m
    · have h0' : (0 : Int) < m := by omega
      have hzr : w.heap.size < wr.heap.size := Nat.lt_of_lt_of_le hz1 hur.size
      have HCR : Hid (IsCur wr c (A + 2 + 2 * (4 - (m : Int)))) := hcr
      have HUR : Hid (Upd c w1 wr) := hur
      clear hcr hur
      go_wp2_with fail
      refine (pick_any c _ 18 _ HCR.out (by omega) (by omega) (by omega)).mono ?_
      rintro e w2 ⟨q, q0, q1, rfl, hc2, hu2⟩
      have hcell : w2.cell? ⟨w.heap.size, q.toNat, none⟩ = some (.string (strs18.getD q.toNat ByteArray.empty)) := (hu2.cell (p := ⟨w.heap.size, q.toNat, none⟩) hzr hne).trans ((HUR.out.cell (p := ⟨w.heap.size, q.toNat, none⟩) hz1 hne).trans (HL.out q.toNat (by omega)))
      have hts := strs18_size q.toNat
      generalize strs18.getD q.toNat ByteArray.empty = t at *
      have HC2 : Hid (IsCur w2 c (A + 2 + 2 * (4 - (m : Int)) + 2)) := hc2
      have HU2 : Hid (Upd c wr w2) := hu2
      clear hc2 hu2
      go_wp2
      go_roundw
      case rel => exact ⟨m - 1, s ++ t, by omega, by go_num, rfl, by simp; omega, HC2.out.mono (by omega), HUR.out.trans HU2.out⟩
      case measure => simp [intOf]; omega
    · have h0' : ¬ (0 : Int) < m := by omega
      go_wp2
      go_ret
      exact ⟨s, by omega, rfl, hcr.mono (by omega), HU.out.trans hur⟩
end Go.Proofs.YtdcdoeolaongkaaGreatDoor.Dr
