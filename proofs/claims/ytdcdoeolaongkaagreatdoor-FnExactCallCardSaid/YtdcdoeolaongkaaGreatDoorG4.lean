import Derived.Test.YtdcdoeolaongkaaGreatDoorG3
namespace Go.Proofs.YtdcdoeolaongkaaGreatDoor
open Go.ChangeShapes Go.WideShapes Go.ChangeAt Go.RowKit Go.Shelf
set_option linter.unusedVariables false
set_option linter.unusedSimpArgs false
set_option maxRecDepth 100000
/-- What Plain ends with. -/
def PlainEnd (k n : Int) (s : ByteArray) (w : World) (e : Ending) (w' : World) : Prop := ∃ b, isPlain k n s b ∧ e = .returned (.string b) ∧ Below w.heap.size w w'
theorem PlainEnd.mk {k n : Int} {s b : ByteArray} {w w' : World} (h : isPlain k n s b) (hb : Below w.heap.size w w') : PlainEnd k n s w (.returned (.string b)) w' := ⟨b, h, rfl, hb⟩
theorem isPlain_bad {k n : Int} {s : ByteArray} (h : vok k n s = false) : isPlain k n s ⟨#[63]⟩ := by unfold isPlain; rw [if_pos h]
theorem isPlain_null {n : Int} {s : ByteArray} (h : vok 0 n s = true) : isPlain 0 n s ⟨#[78, 85, 76, 76]⟩ := by unfold isPlain; rw [if_neg (by rw [h]; simp), if_pos rfl]
theorem isPlain_int {n : Int} {s : ByteArray} (h : vok 1 n s = true) : isPlain 1 n s ⟨(Lib.itoa n).toArray⟩ := by unfold isPlain; rw [if_neg (by rw [h]; simp), if_neg (by decide), if_pos rfl]
theorem isPlain_dec {n : Int} {s : ByteArray} (h : vok 2 n s = true) : isPlain 2 n s ⟨(decT n).toArray⟩ := by unfold isPlain; rw [if_neg (by rw [h]; simp), if_neg (by decide), if_neg (by decide), if_pos rfl]
theorem isPlain_text {n : Int} {s : ByteArray} (h : vok 3 n s = true) : isPlain 3 n s s := by unfold isPlain; rw [if_neg (by rw [h]; simp), if_neg (by decide), if_neg (by decide), if_neg (by decide), if_neg (by decide), if_neg (by decide)]
theorem isPlain_bool {n : Int} {s : ByteArray} (h : vok 4 n s = true) : isPlain 4 n s (if n = 1 then ⟨#[116, 114, 117, 101]⟩ else ⟨#[102, 97, 108, 115, 101]⟩) := by unfold isPlain; rw [if_neg (by rw [h]; simp), if_neg (by decide), if_neg (by decide), if_neg (by decide), if_pos rfl]
theorem isPlain_day {n y m d : Int} {s : ByteArray} (h : vok 5 n s = true) (v : Days.vld y m d) (e : Days.num y m d = n) : isPlain 5 n s ⟨(dayT y m d).toArray⟩ := by unfold isPlain; rw [if_neg (by rw [h]; simp), if_neg (by decide), if_neg (by decide), if_neg (by decide), if_neg (by decide), if_pos rfl]; exact ⟨y, m, d, v, e, rfl⟩
theorem vok_more {k n : Int} {s : ByteArray} (h : vok k n s = true) : (k = 0 ∨ k = 1 ∨ k = 2 ∨ k = 3 ∨ k = 4 ∨ k = 5) ∧ (k = 2 → -999999999999999999 ≤ n ∧ n ≤ 999999999999999999) ∧ (k = 5 → -719162 ≤ n ∧ n ≤ 2932896) := by
  unfold vok at h
  refine ⟨?_, ?_, ?_⟩
  · by_cases e : k = 0 ∨ k = 1 ∨ k = 2 ∨ k = 3 ∨ k = 4 ∨ k = 5
    · exact e
    · rw [if_neg (by omega), if_neg (by omega), if_neg (by omega), if_neg (by omega), if_neg (by omega), if_neg (by omega)] at h; cases h
  · intro e; subst e; simp at h; omega
  · intro e; subst e; simp at h; omega
set_option maxHeartbeats 4000000 in
theorem toText_spec (k n : Int) (s : ByteArray) (w : World) (wn : (Lit.int .i64 n).wf = true) (hv : vok k n s = true) (h0 : ¬ k = 0) :
    Calls Tryz.prog 64 #[.agg #[.int .i64 k, .int .i64 n, .string s]] w fun e w' => PlainEnd k n s w e w' := by
  have hm := vok_more hv
  have HV : Hid (vok k n s = true) := hv
  have bw0 := below_alloc w (.cells #[.int .i64 k, .int .i64 n, .string s] 29)
  obtain ⟨hk, hd, hy⟩ := hm
  clear hv
  rcases hk with rfl | rfl | rfl | rfl | rfl | rfl
  · exact absurd rfl h0
  · clear h0 hd hy
    go_enter Tryz.func64, Tryz.ntmps64
    go_wp2_with fail
    refine (dec_any n _ wn).mono ?_
    rintro e w1 ⟨rfl, b1⟩
    go_wp2
    go_ret
    exact PlainEnd.mk (isPlain_int HV.out) (chain bw0 b1)
  · have b := hd rfl
    clear h0 hd hy
    go_enter Tryz.func64, Tryz.ntmps64
    go_wp2_with fail
    refine (decText_spec n _ b.1 b.2).mono ?_
    rintro e w1 ⟨rfl, b1⟩
    go_wp2
    go_ret
    exact PlainEnd.mk (isPlain_dec HV.out) (chain bw0 b1)
  · clear h0 hd hy
    go_enter Tryz.func64, Tryz.ntmps64
    go_wp2
    go_ret
    exact PlainEnd.mk (isPlain_text HV.out) bw0
  · have HB : Hid (isPlain 4 n s (if n = 1 then ⟨#[116, 114, 117, 101]⟩ else ⟨#[102, 97, 108, 115, 101]⟩)) := isPlain_bool HV.out
    clear h0 hd hy
    by_cases h1 : n = 1
    · subst h1
      have HC : Hid (isPlain 4 1 s ⟨#[116, 114, 117, 101]⟩) := (by have := HB.out; rwa [if_pos rfl] at this : isPlain 4 1 s ⟨#[116, 114, 117, 101]⟩)
      go_enter Tryz.func64, Tryz.ntmps64
      go_wp2
      go_ret
      exact PlainEnd.mk HC.out bw0
    · have e1 : (n == 1) = false := by simpa using h1
      have HC : Hid (isPlain 4 n s ⟨#[102, 97, 108, 115, 101]⟩) := (by have := HB.out; rwa [if_neg h1] at this : isPlain 4 n s ⟨#[102, 97, 108, 115, 101]⟩)
      clear h1
      go_enter Tryz.func64, Tryz.ntmps64
      go_wp2
      go_ret
      exact PlainEnd.mk HC.out bw0
  · have b := hy rfl
    clear h0 hd hy
    go_enter Tryz.func64, Tryz.ntmps64
    go_wp2_with fail
    refine (dayText_spec n _ b.1 b.2).mono ?_
    rintro e w1 ⟨y, m, d, v, hn, rfl, b1⟩
    have HP : Hid (isPlain 5 n s ⟨(dayT y m d).toArray⟩) := isPlain_day HV.out v hn
    clear v hn
    go_wp2
    go_ret
    exact PlainEnd.mk HP.out (chain bw0 b1)
end Go.Proofs.YtdcdoeolaongkaaGreatDoor
