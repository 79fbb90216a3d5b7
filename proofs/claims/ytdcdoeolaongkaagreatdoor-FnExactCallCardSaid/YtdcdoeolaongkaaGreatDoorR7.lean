import Derived.Test.YtdcdoeolaongkaaGreatDoorR0
import Derived.Test.YtdcdoeolaongkaaGreatDoorR4m
import Derived.Test.YtdcdoeolaongkaaGreatDoorR3
import Derived.Test.YtdcdoeolaongkaaGreatDoorR5
namespace Go.Proofs.YtdcdoeolaongkaaGreatDoor.Rd
open Go.ChangeShapes Go.WideShapes Go.ChangeAt Go.RowKit Go.Shelf
set_option linter.unusedVariables false
set_option linter.unusedSimpArgs false
set_option maxRecDepth 100000
def cV (k n c : Int) : Value := .tuple #[.agg #[.int .i64 k, .int .i64 n, .string ⟨#[]⟩], .int .i64 c]
/-- What is read of a text, at a kind. -/
def rdB (l : List UInt8) : Int × Bool := if (l == [116, 114, 117, 101]) = true then (1, true) else if (l == [102, 97, 108, 115, 101]) = true then (0, true) else (0, false)
def rdK (kind : Int) (s : ByteArray) : Int × Bool := if kind = 1 then rdI s.data.toList else if kind = 2 then rdD s.data.toList else if kind = 4 then rdB s.data.toList else rdT s.data.toList
def ctK (kind : Int) (r : Int × Bool) : Value := if r.2 = true then cV kind r.1 0 else cV 0 0 15
theorem bit_any (b : Bool) (w : World) : Calls Tryz.prog 131 #[.bool b] w fun e w' => e = .returned (.int .i64 (if b then 1 else 0)) ∧ w' = w := by
  cases b
  all_goals
    go_enter Tryz.func131, Tryz.ntmps131
    go_wp2
    go_ret
    exact ⟨rfl, rfl⟩
set_option maxHeartbeats 2000000 in
theorem castText_4 (s : ByteArray) (w : World) (hs : s.size ≤ 1048576) (hM : ML w) : Calls Tryz.prog 45 #[.string s, .int .i64 4] w fun e w' => e = .returned (ctK 4 (rdK 4 s)) ∧ Below w.heap.size w w' := by
  have HR : Hid (rdK 4 s = rdB s.data.toList) := rfl
  rw [HR.out]
  have bw0 := below_alloc w (.cells #[.int .i64 0, .int .i64 0, .string ⟨#[]⟩] 29)
  clear HR
  have ht := Lib.toList_data s
  have hfd : ∀ (n : Int) (w : World), (Instr.field 29 (.agg #[.int .i64 4, .int .i64 n, .string ⟨#[]⟩]) 1).run Tryz.prog w = .ok (.int .i64 n) w := fun _ _ => by kernel_rfl
  cases e1 : (s.toList == [116, 114, 117, 101])
  · cases e2 : (s.toList == [102, 97, 108, 115, 101])
    · have HV : Hid (rdB s.data.toList = (0, false)) := (by rw [← ht]; unfold rdB; rw [e1, e2]; rfl : rdB s.data.toList = (0, false))
      rw [HV.out]
      clear ht HV
      go_enter Tryz.func45, Tryz.ntmps45
      go_wp2_with (go_at_call 58; fail)
      refine (boolValue_any false _).mono ?_
      rintro e w1 ⟨rfl, hb⟩
      obtain ⟨hc, hf⟩ := bcell hb
      have hz : w.heap.size < w1.heap.size := by have := hb.size; simp at this; omega
      have bw1 : Below w.heap.size w w1 := bw0.trans (hb.mono (by simp))
      go_wp2
      refine bodyPost_ret (v := cV 0 0 15) (by simp [results, Tryz.results45, go_sem, cV, zB, hc, hf, hz]) rfl ⟨rfl, ?_⟩
      exact ((bw1.setCell (Nat.le_refl _) _).setCell (Nat.le_refl _) _).setCell (Nat.le_refl _) _
    · have HV : Hid (rdB s.data.toList = (0, true)) := (by rw [← ht]; unfold rdB; rw [e1, e2]; rfl : rdB s.data.toList = (0, true))
      rw [HV.out]
      clear ht HV
      go_enter Tryz.func45, Tryz.ntmps45
      go_wp2_with (go_at_call 58; fail)
      refine (boolValue_any false _).mono ?_
      rintro e w1 ⟨rfl, hb⟩
      obtain ⟨hc, hf⟩ := bcell hb
      have hz : w.heap.size < w1.heap.size := by have := hb.size; simp at this; omega
      have bw1 : Below w.heap.size w w1 := bw0.trans (hb.mono (by simp))
      go_wp2
      refine bodyPost_ret (v := cV 4 0 0) (by simp [results, Tryz.results45, go_sem, cV, zB, hc, hf, hz]) rfl ⟨rfl, ?_⟩
      exact ((bw1.setCell (Nat.le_refl _) _).setCell (Nat.le_refl _) _).setCell (Nat.le_refl _) _
  · have HV : Hid (rdB s.data.toList = (1, true)) := (by rw [← ht]; unfold rdB; rw [e1]; rfl : rdB s.data.toList = (1, true))
    rw [HV.out]
    clear ht HV
    go_enter Tryz.func45, Tryz.ntmps45
    go_wp2_with (go_at_call 58; fail)
    refine (boolValue_any true _).mono ?_
    rintro e w1 ⟨rfl, hb⟩
    obtain ⟨hc, hf⟩ := bcell hb
    have hz : w.heap.size < w1.heap.size := by have := hb.size; simp at this; omega
    have bw1 : Below w.heap.size w w1 := bw0.trans (hb.mono (by simp))
    go_wp2
    refine bodyPost_ret (v := cV 4 1 0) (by simp [results, Tryz.results45, go_sem, cV, zB, hc, hf, hz]) rfl ⟨rfl, ?_⟩
    exact ((bw1.setCell (Nat.le_refl _) _).setCell (Nat.le_refl _) _).setCell (Nat.le_refl _) _
set_option maxHeartbeats 2000000 in
theorem fromText_4 (s : ByteArray) (w : World) (hs : s.size ≤ 1048576) : Calls Tryz.prog 65 #[.string s, .int .i64 4] w fun e w' => e = .returned (ctK 4 (rdK 4 s)) ∧ Below w.heap.size w w' := by
  have HR : Hid (rdK 4 s = rdB s.data.toList) := rfl
  rw [HR.out]
  have bw0 := below_alloc w (.cells #[.int .i64 0, .int .i64 0, .string ⟨#[]⟩] 29)
  clear HR
  have ht := Lib.toList_data s
  cases e1 : (s.toList == [116, 114, 117, 101])
  · cases e2 : (s.toList == [102, 97, 108, 115, 101])
    · have HV : Hid (rdB s.data.toList = (0, false)) := (by rw [← ht]; unfold rdB; rw [e1, e2]; rfl : rdB s.data.toList = (0, false))
      rw [HV.out]
      clear ht HV
      go_enter Tryz.func65, Tryz.ntmps65
      go_wp2_with (go_at_call 131; fail)
      refine (bit_any false _).mono ?_
      rintro e w1 ⟨rfl, hb⟩
      rw [hb]
      clear hb w1
      go_wp2
      refine bodyPost_ret (v := cV 0 0 15) (by simp [results, Tryz.results65, go_sem, cV, zB]) rfl ⟨rfl, ?_⟩
      go_light
      repeat (first | with_reducible exact Below.refl _ _ | refine Below.setCell ?_ (by simp) _ | refine Below.alloc ?_ (by simp) _)
    · have HV : Hid (rdB s.data.toList = (0, true)) := (by rw [← ht]; unfold rdB; rw [e1, e2]; rfl : rdB s.data.toList = (0, true))
      rw [HV.out]
      clear ht HV
      go_enter Tryz.func65, Tryz.ntmps65
      go_wp2_with (go_at_call 131; fail)
      refine (bit_any false _).mono ?_
      rintro e w1 ⟨rfl, hb⟩
      rw [hb]
      clear hb w1
      go_wp2
      refine bodyPost_ret (v := cV 4 0 0) (by simp [results, Tryz.results65, go_sem, cV, zB]) rfl ⟨rfl, ?_⟩
      go_light
      repeat (first | with_reducible exact Below.refl _ _ | refine Below.setCell ?_ (by simp) _ | refine Below.alloc ?_ (by simp) _)
  · have HV : Hid (rdB s.data.toList = (1, true)) := (by rw [← ht]; unfold rdB; rw [e1]; rfl : rdB s.data.toList = (1, true))
    rw [HV.out]
    clear ht HV
    go_enter Tryz.func65, Tryz.ntmps65
    go_wp2_with (go_at_call 131; fail)
    refine (bit_any true _).mono ?_
    rintro e w1 ⟨rfl, hb⟩
    rw [hb]
    clear hb w1
    go_wp2
    refine bodyPost_ret (v := cV 4 1 0) (by simp [results, Tryz.results65, go_sem, cV, zB]) rfl ⟨rfl, ?_⟩
    go_light
    repeat (first | with_reducible exact Below.refl _ _ | refine Below.setCell ?_ (by simp) _ | refine Below.alloc ?_ (by simp) _)
set_option maxHeartbeats 2000000 in
theorem castText_1 (s : ByteArray) (w : World) (hs : s.size ≤ 1048576) (hM : ML w) : Calls Tryz.prog 45 #[.string s, .int .i64 1] w fun e w' => e = .returned (ctK 1 (rdK 1 s)) ∧ Below w.heap.size w w' := by
  have HR : Hid (rdK 1 s = rdI s.data.toList) := rfl
  have hcon := fun w => readInt_impl s w hs
  rw [HR.out]
  generalize rdI s.data.toList = r at *
  obtain ⟨r1, r2⟩ := r
  simp only at hcon
  have bw0 := below_alloc w (.cells #[.int .i64 0, .int .i64 0, .string ⟨#[]⟩] 29)
  clear HR
  cases r2
  · go_enter Tryz.func45, Tryz.ntmps45
    go_wp2_with (go_at_call 102; fail)
    refine (hcon _).mono ?_
    rintro e w1 ⟨rfl, hb⟩
    obtain ⟨hc, hf⟩ := bcell hb
    have hz : w.heap.size < w1.heap.size := by have := hb.size; simp at this; omega
    have bw1 : Below w.heap.size w w1 := bw0.trans (hb.mono (by simp))
    go_wp2
    refine bodyPost_ret (v := cV 0 0 15) (by simp [results, Tryz.results45, go_sem, cV, zB, hc, hf, hz]) rfl ⟨rfl, ?_⟩
    exact ((bw1.setCell (Nat.le_refl _) _).setCell (Nat.le_refl _) _).setCell (Nat.le_refl _) _
  · go_enter Tryz.func45, Tryz.ntmps45
    go_wp2_with (go_at_call 102; fail)
    refine (hcon _).mono ?_
    rintro e w1 ⟨rfl, hb⟩
    obtain ⟨hc, hf⟩ := bcell hb
    have hz : w.heap.size < w1.heap.size := by have := hb.size; simp at this; omega
    have bw1 : Below w.heap.size w w1 := bw0.trans (hb.mono (by simp))
    go_wp2
    refine bodyPost_ret (v := cV 1 r1 0) (by simp [results, Tryz.results45, go_sem, cV, zB, hc, hf, hz]) rfl ⟨rfl, ?_⟩
    exact ((bw1.setCell (Nat.le_refl _) _).setCell (Nat.le_refl _) _).setCell (Nat.le_refl _) _
set_option maxHeartbeats 2000000 in
theorem castText_2 (s : ByteArray) (w : World) (hs : s.size ≤ 1048576) (hM : ML w) : Calls Tryz.prog 45 #[.string s, .int .i64 2] w fun e w' => e = .returned (ctK 2 (rdK 2 s)) ∧ Below w.heap.size w w' := by
  have HR : Hid (rdK 2 s = rdD s.data.toList) := rfl
  have hcon := readDecM_impl s (w.alloc (.cells #[.int .i64 0, .int .i64 0, .string ⟨#[]⟩] 29)) hs (hM.below (below_alloc _ _))
  rw [HR.out]
  generalize rdD s.data.toList = r at *
  obtain ⟨r1, r2⟩ := r
  simp only at hcon
  have bw0 := below_alloc w (.cells #[.int .i64 0, .int .i64 0, .string ⟨#[]⟩] 29)
  clear HR
  cases r2
  · go_enter Tryz.func45, Tryz.ntmps45
    go_wp2_with (go_at_call 103; fail)
    refine hcon.mono ?_
    rintro e w1 ⟨rfl, hb⟩
    obtain ⟨hc, hf⟩ := bcell hb
    have hz : w.heap.size < w1.heap.size := by have := hb.size; simp at this; omega
    have bw1 : Below w.heap.size w w1 := bw0.trans (hb.mono (by simp))
    go_wp2
    refine bodyPost_ret (v := cV 0 0 15) (by simp [results, Tryz.results45, go_sem, cV, zB, hc, hf, hz]) rfl ⟨rfl, ?_⟩
    exact ((bw1.setCell (Nat.le_refl _) _).setCell (Nat.le_refl _) _).setCell (Nat.le_refl _) _
  · go_enter Tryz.func45, Tryz.ntmps45
    go_wp2_with (go_at_call 103; fail)
    refine hcon.mono ?_
    rintro e w1 ⟨rfl, hb⟩
    obtain ⟨hc, hf⟩ := bcell hb
    have hz : w.heap.size < w1.heap.size := by have := hb.size; simp at this; omega
    have bw1 : Below w.heap.size w w1 := bw0.trans (hb.mono (by simp))
    go_wp2
    refine bodyPost_ret (v := cV 2 r1 0) (by simp [results, Tryz.results45, go_sem, cV, zB, hc, hf, hz]) rfl ⟨rfl, ?_⟩
    exact ((bw1.setCell (Nat.le_refl _) _).setCell (Nat.le_refl _) _).setCell (Nat.le_refl _) _
set_option maxHeartbeats 2000000 in
theorem fromText_1 (s : ByteArray) (w : World) (hs : s.size ≤ 1048576) : Calls Tryz.prog 65 #[.string s, .int .i64 1] w fun e w' => e = .returned (ctK 1 (rdK 1 s)) ∧ Below w.heap.size w w' := by
  have HR : Hid (rdK 1 s = rdI s.data.toList) := rfl
  have hcon := fun w => readInt_spec s w hs
  rw [HR.out]
  generalize rdI s.data.toList = r at *
  obtain ⟨r1, r2⟩ := r
  simp only at hcon
  have bw0 := below_alloc w (.cells #[.int .i64 0, .int .i64 0, .string ⟨#[]⟩] 29)
  clear HR
  cases r2
  · go_enter Tryz.func65, Tryz.ntmps65
    go_wp2_with (go_at_call 129; fail)
    refine (hcon _).mono ?_
    rintro e w1 ⟨rfl, hb⟩
    rw [hb]
    clear hb w1
    go_wp2
    refine bodyPost_ret (v := cV 0 0 15) (by simp [results, Tryz.results65, go_sem, cV, zB]) rfl ⟨rfl, ?_⟩
    go_light
    repeat (first | with_reducible exact Below.refl _ _ | refine Below.setCell ?_ (by simp) _ | refine Below.alloc ?_ (by simp) _)
  · go_enter Tryz.func65, Tryz.ntmps65
    go_wp2_with (go_at_call 129; fail)
    refine (hcon _).mono ?_
    rintro e w1 ⟨rfl, hb⟩
    rw [hb]
    clear hb w1
    go_wp2
    refine bodyPost_ret (v := cV 1 r1 0) (by simp [results, Tryz.results65, go_sem, cV, zB]) rfl ⟨rfl, ?_⟩
    go_light
    repeat (first | with_reducible exact Below.refl _ _ | refine Below.setCell ?_ (by simp) _ | refine Below.alloc ?_ (by simp) _)
end Go.Proofs.YtdcdoeolaongkaaGreatDoor.Rd
