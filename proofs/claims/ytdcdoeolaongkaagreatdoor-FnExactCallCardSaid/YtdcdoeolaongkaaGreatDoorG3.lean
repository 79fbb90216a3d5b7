import Derived.Test.YtdcdoeolaongkaaGreatDoorG2
import Derived.Test.YtdcdoeolaongkaaGreatDoorW3
namespace Go.Proofs.YtdcdoeolaongkaaGreatDoor
open Go.ChangeShapes Go.WideShapes Go.ChangeAt Go.RowKit Go.Shelf
set_option linter.unusedVariables false
set_option linter.unusedSimpArgs false
set_option maxRecDepth 100000
theorem chain {w W w' : World} (h : Below w.heap.size w W) (hb : Below W.heap.size W w') : Below w.heap.size w w' := h.trans (hb.mono h.size)
/-- A day's text. -/
def dayT (y m d : Int) : List UInt8 := wideL (Lib.itoa y) 4 ++ 45 :: (wideL (Lib.itoa m) 2 ++ 45 :: wideL (Lib.itoa d) 2)
theorem wide_len (l : List UInt8) (d : Nat) (hl : l.length ≤ 21) (hd : d ≤ 4) : (wideL l d).length ≤ 30 := by unfold wideL; simp; omega
theorem day_str (a b c : List UInt8) : ((((⟨a.toArray⟩ : ByteArray) ++ ⟨#[45]⟩) ++ ⟨b.toArray⟩) ++ ⟨#[45]⟩) ++ ⟨c.toArray⟩ = ⟨(a ++ 45 :: (b ++ 45 :: c)).toArray⟩ := by
  apply ByteArray.ext; apply Array.ext'; simp
set_option maxHeartbeats 4000000 in
theorem dayText_spec (n : Int) (w : World) (h1 : -719162 ≤ n) (h2 : n ≤ 2932896) : Calls Tryz.prog 128 #[.int .i64 n] w fun e w' => ∃ y m d : Int, Days.vld y m d ∧ Days.num y m d = n ∧ e = .returned (.string ⟨(dayT y m d).toArray⟩) ∧ Below w.heap.size w w' := by
  go_enter Tryz.func128, Tryz.ntmps128
  go_wp2_with fail
  refine (Days.parts_spec _ _ h1 h2).mono ?_
  rintro e w0 ⟨y, m, d, rfl, v, hn, hw⟩
  rw [hw]
  clear hw w0
  have V : Hid (Days.vld y m d) := v
  have N : Hid (Days.num y m d = n) := hn
  have hd31 := Days.mdays_bd y m
  obtain ⟨⟨y1, y2⟩, ⟨m1, m2⟩, d1, d2⟩ := v
  clear hn
  have wy : (Lit.int .i64 y).wf = true := in_wf (by omega) (by omega)
  have wm : (Lit.int .i64 m).wf = true := in_wf (by omega) (by omega)
  have wd : (Lit.int .i64 d).wf = true := in_wf (by omega) (by omega)
  have ly := wide_len (Lib.itoa y) 4 (Lib.itoa_length_le y (by omega) (by omega)) (by omega)
  have lm := wide_len (Lib.itoa m) 2 (Lib.itoa_length_le m (by omega) (by omega)) (by omega)
  have ld := wide_len (Lib.itoa d) 2 (Lib.itoa_length_le d (by omega) (by omega)) (by omega)
  clear hd31 d2
  go_wp2_with fail
  refine (wide_any y 4 _ wy (by omega)).mono ?_
  rintro e w1 ⟨rfl, b1⟩
  go_wp2_with fail
  refine (wide_any m 2 _ wm (by omega)).mono ?_
  rintro e w2 ⟨rfl, b2⟩
  go_wp2_with fail
  refine (wide_any d 2 _ wd (by omega)).mono ?_
  rintro e w3 ⟨rfl, b3⟩
  have bw := chain (chain b1 b2) b3
  clear wy wm wd
  go_wp2
  go_ret
  exact ⟨y, m, d, V.out, N.out, ret_str (day_str _ _ _), bw⟩
/-- Plain's answer. -/
def isPlain (k n : Int) (s b : ByteArray) : Prop :=
  if vok k n s = false then b = ⟨#[63]⟩
  else if k = 0 then b = ⟨#[78, 85, 76, 76]⟩
  else if k = 1 then b = ⟨(Lib.itoa n).toArray⟩
  else if k = 2 then b = ⟨(decT n).toArray⟩
  else if k = 4 then b = (if n = 1 then ⟨#[116, 114, 117, 101]⟩ else ⟨#[102, 97, 108, 115, 101]⟩)
  else if k = 5 then ∃ y m d : Int, Days.vld y m d ∧ Days.num y m d = n ∧ b = ⟨(dayT y m d).toArray⟩
  else b = s
theorem isPlain_one {k n : Int} {s b c : ByteArray} (h1 : isPlain k n s b) (h2 : isPlain k n s c) : b = c := by
  unfold isPlain at h1 h2
  split at h1
  · rw [if_pos ‹_›] at h2; rw [h1, h2]
  rw [if_neg ‹_›] at h2
  split at h1
  · rw [if_pos ‹_›] at h2; rw [h1, h2]
  rw [if_neg ‹_›] at h2
  split at h1
  · rw [if_pos ‹_›] at h2; rw [h1, h2]
  rw [if_neg ‹_›] at h2
  split at h1
  · rw [if_pos ‹_›] at h2; rw [h1, h2]
  rw [if_neg ‹_›] at h2
  split at h1
  · rw [if_pos ‹_›] at h2; rw [h1, h2]
  rw [if_neg ‹_›] at h2
  split at h1
  · rw [if_pos ‹_›] at h2
    obtain ⟨y, m, d, v, e, rfl⟩ := h1
    obtain ⟨y', m', d', v', e', rfl⟩ := h2
    obtain ⟨rfl, rfl, rfl⟩ := Days.num_inj _ _ _ _ _ _ v v' (e.trans e'.symm)
    rfl
  · rw [if_neg ‹_›] at h2; rw [h1, h2]
end Go.Proofs.YtdcdoeolaongkaaGreatDoor
