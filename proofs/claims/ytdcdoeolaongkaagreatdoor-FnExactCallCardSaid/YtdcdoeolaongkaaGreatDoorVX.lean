import Derived.Test.YtdcdoeolaongkaaGreatDoorU1
import Derived.Test.YtdcdoeolaongkaaGreatDoorK4
import Derived.Shelf.Strings.Builder1
import Derived.Shelf.Strings.Builder2
import Derived.Shelf.Strings.Trim
import Derived.Shelf.Small.Utf8
import Derived.Shelf.Small.Bits
import Derived.Shelf.Small.Strs
import Derived.Shelf.Small.Wraps
import Derived.Shelf.Strings.BuilderF
import Derived.Shelf.Strings.BuilderK
import Derived.Shelf.Strings.BuilderRune
import Derived.Shelf.Utf8.AppendRune
import Derived.Shelf.Utf8.AppendRunePlain
import Derived.Shelf.Strings.Builder2Cap
import Derived.Shelf.Strconv.Itoa0
import Derived.Shelf.Strconv.Itoa1
import Derived.Shelf.LaysM
import Derived.Shelf.Strconv.Itoa2
import Derived.Shelf.Strconv.Itoa3
import Derived.Shelf.Strings.Search1
import Derived.Shelf.Strings.Search2
import Derived.Shelf.Strings.Cut
import Derived.Shelf.Strings.Shaped
import Derived.Shelf.Strings.Prefix
import Derived.Shelf.Unicode.Decode
import Derived.Shelf.Strings.Runes
import Derived.Shelf.Strings.AsciiSet
import Derived.Shelf.Bits.Mul64
import Derived.Shelf.Strings.Repeat
import Derived.Shelf.Unicode.DecodeSlow
import Derived.Shelf.Unicode.DecodeAny
import Derived.Shelf.Unicode.DecodeLast
import Derived.Shelf.Strings.MapAny
import Derived.Shelf.Strings.BuilderCap
import Derived.Shelf.Strings.MapGrows
import Derived.Ground.Names2Prog
import Derived.Shelf.Slices.SearchI
import Derived.Shelf.Unicode.ValidAny
import Derived.Test.YtdcdoeolaongkaaGreatDoorS1
import Derived.Test.YtdcdoeolaongkaaGreatDoorP3
import Derived.Test.YtdcdoeolaongkaaGreatDoorC0
import Derived.Test.YtdcdoeolaongkaaGreatDoorW4
import Derived.Deep.QuietTactic
import Derived.BigQuiet
import Derived.Test.YtdcdoeolaongkaaGreatDoorW3
namespace Go.Proofs.YtdcdoeolaongkaaGreatDoor
open Go.ChangeShapes Go.WideShapes Go.ChangeAt Go.RowKit Go.Shelf
set_option linter.unusedVariables false
set_option linter.unusedSimpArgs false
set_option maxRecDepth 100000
theorem opk_un {op k : Int} (h1 : 16 ≤ op) (h2 : op ≤ 18) : Ok.opk op k 0 = -1 ∨ 0 ≤ Ok.opk op k 0 := by
  simp only [Ok.opk, Ok.unK]; grind
/-- What Unary answers, as a Go value. -/
def unV (r : Int × Int × Int) : Value := .tuple #[.agg #[.int .i64 r.1, .int .i64 r.2.1, .string ⟨#[]⟩], .int .i64 r.2.2]
set_option maxHeartbeats 4000000 in
theorem unary_impl (op k n : Int) (s : ByteArray) (w : World) (hs : s.size ≤ 1048576) (wn : (Lit.int .i64 n).wf = true) (hT : Tabs w) :
    Calls Tryz.prog 148 #[.int .i64 op, .agg #[.int .i64 k, .int .i64 n, .string s]] w fun e w' => e = .returned (unV (unR op k n (Ok.opk op k 0) (vok k n s))) ∧ Below w.heap.size w w' := by
  have bw0 : Below w.heap.size w ((w.alloc (.cells #[.int .i64 k, .int .i64 n, .string s] 29)).alloc (.cells #[.int .i64 0, .int .i64 0, .string ⟨#[]⟩] 29)) := (below_alloc w _).alloc (by simp) _
  by_cases hin : op < 16 ∨ 18 < op
  · have HR : Hid (unR op k n (Ok.opk op k 0) (vok k n s) = (0, 0, 1)) := (by unfold unR; rw [if_pos (by rcases hin with h | h; exact .inl h; exact .inr (.inl h))] : unR op k n (Ok.opk op k 0) (vok k n s) = (0, 0, 1))
    rw [HR.out]
    rcases hin with h | h
    · have d1 : decide (16 ≤ op) = false := by simpa using h
      go_enter Tryz.func148, Tryz.ntmps148
      go_wp2_with (first | (go_at_call 52; refine (within_any _ _ _ _).mono ?_; rintro e w' ⟨rfl, rfl⟩))
      refine bodyPost_ret (v := unV (0, 0, 1)) (by simp [results, Tryz.results148, go_sem, unV]) rfl ⟨rfl, bw0⟩
    · have d1 : decide (16 ≤ op) = true := by simp; omega
      have d2 : decide (op ≤ 18) = false := by simpa using h
      have h' : ¬ op < 16 := by omega
      go_enter Tryz.func148, Tryz.ntmps148
      go_wp2_with (first | (go_at_call 52; refine (within_any _ _ _ _).mono ?_; rintro e w' ⟨rfl, rfl⟩))
      refine bodyPost_ret (v := unV (0, 0, 1)) (by simp [results, Tryz.results148, go_sem, unV]) rfl ⟨rfl, bw0⟩
  have g1 : ¬ op < 16 := by omega
  have g2 : ¬ 18 < op := by omega
  have d1 : decide (16 ≤ op) = true := by simp; omega
  have d2 : decide (op ≤ 18) = true := by simp; omega
  clear hin
  cases hv : vok k n s with
  | false =>
    have HV : Hid (vok k n s = false) := hv
    have HR : Hid (unR op k n (Ok.opk op k 0) false = (0, 0, 1)) := (by simp [unR] : unR op k n (Ok.opk op k 0) false = (0, 0, 1))
    clear hv
    rw [HR.out]
    go_enter Tryz.func148, Tryz.ntmps148
    go_wp2_with (first | (go_at_call 52; refine (within_any _ _ _ _).mono ?_; rintro e w' ⟨rfl, rfl⟩))
    refine (vok_impl k n s _ hs (tabs_below hT bw0)).mono ?_
    rw [HV.out]
    rintro e w1 ⟨rfl, hb⟩
    obtain ⟨hc, hf⟩ := bcell hb
    have hz : w.heap.size + 1 < w1.heap.size := by have := hb.size; simp at this; omega
    have hy : w.heap.size < w1.heap.size := by omega
    have bw1 : Below w.heap.size w w1 := bw0.trans (hb.mono (by simp; omega))
    go_wp2
    refine bodyPost_ret (v := unV (0, 0, 1)) (by simp [results, Tryz.results148, go_sem, unV, hc, hf, hz]) rfl ⟨rfl, ?_⟩
    exact ((bw1.setCell (by simp) _).setCell (by simp) _).setCell (by simp) _
  | true =>
    have HV : Hid (vok k n s = true) := hv
    clear hv
    by_cases hk : Ok.opk op k 0 = -1
    · have HR : Hid (unR op k n (Ok.opk op k 0) true = (0, 0, 10)) := (by unfold unR; rw [if_neg (by simp; omega), if_pos hk] : unR op k n (Ok.opk op k 0) true = (0, 0, 10))
      have kb : (Ok.opk op k 0 == -1) = true := by rw [hk]; rfl
      have kl : Ok.opk op k 0 < 0 := by omega
      clear hk
      rw [HR.out]
      go_enter Tryz.func148, Tryz.ntmps148
      go_wp2_with (first | (go_at_call 52; refine (within_any _ _ _ _).mono ?_; rintro e w' ⟨rfl, rfl⟩))
      refine (vok_impl k n s _ hs (tabs_below hT bw0)).mono ?_
      rw [HV.out]
      rintro e w1 ⟨rfl, hb⟩
      obtain ⟨hc, hf⟩ := bcell hb
      have hz : w.heap.size + 1 < w1.heap.size := by have := hb.size; simp at this; omega
      have hy : w.heap.size < w1.heap.size := by omega
      have bw1 : Below w.heap.size w w1 := bw0.trans (hb.mono (by simp; omega))
      go_wp2_with fail
      refine (Ok.opKind_impl _ _ _ _).mono ?_
      rintro e w2 ⟨rfl, hb2⟩
      obtain ⟨hc2, hf2⟩ := bcell hb2
      have hz2 : w.heap.size + 1 < w2.heap.size := by have := hb2.size; omega
      have hy2 : w.heap.size < w2.heap.size := by omega
      have bw2 : Below w.heap.size w w2 := bw1.trans (hb2.mono (by have := bw1.size; omega))
      go_wp2
      refine bodyPost_ret (v := unV (0, 0, 10)) (by simp [results, Tryz.results148, go_sem, unV, hc, hf, hz, hc2, hf2, hz2]) rfl ⟨rfl, ?_⟩
      exact ((bw2.setCell (by simp) _).setCell (by simp) _).setCell (by simp) _
    have kb : (Ok.opk op k 0 == -1) = false := by simpa using hk
    have kl : ¬ Ok.opk op k 0 < 0 := by have := opk_un (op := op) (k := k) (by omega) (by omega); omega
    have HU : Hid (unR op k n (Ok.opk op k 0) true = if op = 18 then (4, zB (k == 0), 0) else if k = 0 then (0, 0, 0) else if op = 16 then (4, zB (n == 0), 0) else if n = -9223372036854775808 then (0, 0, 13) else (k, -n, 0)) := (by unfold unR; rw [if_neg (by simp; omega), if_neg hk] : unR op k n (Ok.opk op k 0) true = _)
    clear hk
    by_cases c1 : op = 18
    · have HR : Hid (unR op k n (Ok.opk op k 0) true = (4, zB (k == 0), 0)) := (by rw [HU.out]; simp [*] : unR op k n (Ok.opk op k 0) true = (4, zB (k == 0), 0))
      clear HU
      rw [HR.out]
      have e1 : (op == 18) = true := by simpa using c1
      clear c1
      go_enter Tryz.func148, Tryz.ntmps148
      go_wp2_with (first | (go_at_call 52; refine (within_any _ _ _ _).mono ?_; rintro e w' ⟨rfl, rfl⟩))
      refine (vok_impl k n s _ hs (tabs_below hT bw0)).mono ?_
      rw [HV.out]
      rintro e w1 ⟨rfl, hb⟩
      obtain ⟨hc, hf⟩ := bcell hb
      have hz : w.heap.size + 1 < w1.heap.size := by have := hb.size; simp at this; omega
      have hy : w.heap.size < w1.heap.size := by omega
      have bw1 : Below w.heap.size w w1 := bw0.trans (hb.mono (by simp; omega))
      go_wp2_with fail
      refine (Ok.opKind_impl _ _ _ _).mono ?_
      rintro e w2 ⟨rfl, hb2⟩
      obtain ⟨hc2, hf2⟩ := bcell hb2
      have hz2 : w.heap.size + 1 < w2.heap.size := by have := hb2.size; omega
      have hy2 : w.heap.size < w2.heap.size := by omega
      have bw2 : Below w.heap.size w w2 := bw1.trans (hb2.mono (by have := bw1.size; omega))
      go_wp2_with fail
      refine (boolValue_any _ _).mono ?_
      rintro e w3 ⟨rfl, hb3⟩
      obtain ⟨hc3, hf3⟩ := bcell hb3
      have hz3 : w.heap.size + 1 < w3.heap.size := by have := hb3.size; omega
      have hy3 : w.heap.size < w3.heap.size := by omega
      have bw3 : Below w.heap.size w w3 := bw2.trans (hb3.mono (by have := bw2.size; omega))
      go_wp2
      refine bodyPost_ret (v := unV (4, zB (k == 0), 0)) (by simp [results, Tryz.results148, go_sem, unV, hc, hf, hz, hc2, hf2, hz2, hc3, hf3, hz3]) rfl ⟨rfl, ?_⟩
      exact ((bw3.setCell (by simp) _).setCell (by simp) _).setCell (by simp) _
    have e1 : (op == 18) = false := by simpa using c1
    by_cases c2 : k = 0
    · have HR : Hid (unR op k n (Ok.opk op k 0) true = (0, 0, 0)) := (by rw [HU.out]; simp [*] : unR op k n (Ok.opk op k 0) true = (0, 0, 0))
      clear HU
      rw [HR.out]
      have e2 : (k == 0) = true := by simpa using c2
      clear c2
      go_enter Tryz.func148, Tryz.ntmps148
      go_wp2_with (first | (go_at_call 52; refine (within_any _ _ _ _).mono ?_; rintro e w' ⟨rfl, rfl⟩))
      refine (vok_impl k n s _ hs (tabs_below hT bw0)).mono ?_
      rw [HV.out]
      rintro e w1 ⟨rfl, hb⟩
      obtain ⟨hc, hf⟩ := bcell hb
      have hz : w.heap.size + 1 < w1.heap.size := by have := hb.size; simp at this; omega
      have hy : w.heap.size < w1.heap.size := by omega
      have bw1 : Below w.heap.size w w1 := bw0.trans (hb.mono (by simp; omega))
      go_wp2_with fail
      refine (Ok.opKind_impl _ _ _ _).mono ?_
      rintro e w2 ⟨rfl, hb2⟩
      obtain ⟨hc2, hf2⟩ := bcell hb2
      have hz2 : w.heap.size + 1 < w2.heap.size := by have := hb2.size; omega
      have hy2 : w.heap.size < w2.heap.size := by omega
      have bw2 : Below w.heap.size w w2 := bw1.trans (hb2.mono (by have := bw1.size; omega))
      go_wp2
      refine bodyPost_ret (v := unV (0, 0, 0)) (by simp [results, Tryz.results148, go_sem, unV, hc, hf, hz, hc2, hf2, hz2]) rfl ⟨rfl, ?_⟩
      exact ((bw2.setCell (by simp) _).setCell (by simp) _).setCell (by simp) _
    have e2 : (k == 0) = false := by simpa using c2
    by_cases c3 : op = 16
    · have HR : Hid (unR op k n (Ok.opk op k 0) true = (4, zB (n == 0), 0)) := (by rw [HU.out]; simp [*] : unR op k n (Ok.opk op k 0) true = (4, zB (n == 0), 0))
      clear HU
      rw [HR.out]
      have e3 : (op == 16) = true := by simpa using c3
      clear c3
      go_enter Tryz.func148, Tryz.ntmps148
      go_wp2_with (first | (go_at_call 52; refine (within_any _ _ _ _).mono ?_; rintro e w' ⟨rfl, rfl⟩))
      refine (vok_impl k n s _ hs (tabs_below hT bw0)).mono ?_
      rw [HV.out]
      rintro e w1 ⟨rfl, hb⟩
      obtain ⟨hc, hf⟩ := bcell hb
      have hz : w.heap.size + 1 < w1.heap.size := by have := hb.size; simp at this; omega
      have hy : w.heap.size < w1.heap.size := by omega
      have bw1 : Below w.heap.size w w1 := bw0.trans (hb.mono (by simp; omega))
      go_wp2_with fail
      refine (Ok.opKind_impl _ _ _ _).mono ?_
      rintro e w2 ⟨rfl, hb2⟩
      obtain ⟨hc2, hf2⟩ := bcell hb2
      have hz2 : w.heap.size + 1 < w2.heap.size := by have := hb2.size; omega
      have hy2 : w.heap.size < w2.heap.size := by omega
      have bw2 : Below w.heap.size w w2 := bw1.trans (hb2.mono (by have := bw1.size; omega))
      go_wp2_with fail
      refine (boolValue_any _ _).mono ?_
      rintro e w3 ⟨rfl, hb3⟩
      obtain ⟨hc3, hf3⟩ := bcell hb3
      have hz3 : w.heap.size + 1 < w3.heap.size := by have := hb3.size; omega
      have hy3 : w.heap.size < w3.heap.size := by omega
      have bw3 : Below w.heap.size w w3 := bw2.trans (hb3.mono (by have := bw2.size; omega))
      go_wp2
      refine bodyPost_ret (v := unV (4, zB (n == 0), 0)) (by simp [results, Tryz.results148, go_sem, unV, hc, hf, hz, hc2, hf2, hz2, hc3, hf3, hz3]) rfl ⟨rfl, ?_⟩
      exact ((bw3.setCell (by simp) _).setCell (by simp) _).setCell (by simp) _
    have e3 : (op == 16) = false := by simpa using c3
    have bn := wf_in wn
    by_cases c4 : n = -9223372036854775808
    · have HR : Hid (unR op k n (Ok.opk op k 0) true = (0, 0, 13)) := (by rw [HU.out]; simp [*] : unR op k n (Ok.opk op k 0) true = (0, 0, 13))
      have HS : Hid (sub64 0 n = (0, 13)) := (by unfold sub64; unfold inI at bn; split <;> simp <;> omega : sub64 0 n = (0, 13))
      clear HU c4
      rw [HR.out]
      go_enter Tryz.func148, Tryz.ntmps148
      go_wp2_with (first | (go_at_call 52; refine (within_any _ _ _ _).mono ?_; rintro e w' ⟨rfl, rfl⟩))
      refine (vok_impl k n s _ hs (tabs_below hT bw0)).mono ?_
      rw [HV.out]
      rintro e w1 ⟨rfl, hb⟩
      obtain ⟨hc, hf⟩ := bcell hb
      have hz : w.heap.size + 1 < w1.heap.size := by have := hb.size; simp at this; omega
      have hy : w.heap.size < w1.heap.size := by omega
      have bw1 : Below w.heap.size w w1 := bw0.trans (hb.mono (by simp; omega))
      go_wp2_with fail
      refine (Ok.opKind_impl _ _ _ _).mono ?_
      rintro e w2 ⟨rfl, hb2⟩
      obtain ⟨hc2, hf2⟩ := bcell hb2
      have hz2 : w.heap.size + 1 < w2.heap.size := by have := hb2.size; omega
      have hy2 : w.heap.size < w2.heap.size := by omega
      have bw2 : Below w.heap.size w w2 := bw1.trans (hb2.mono (by have := bw1.size; omega))
      go_wp2_with fail
      refine (subInts_any 0 n _ (by decide) wn).mono ?_
      rw [HS.out]
      rintro e w' ⟨rfl, rfl⟩
      go_wp2_with fail
      refine (numbered_bad _ _ _ _ rfl).mono ?_
      rintro e w3 ⟨rfl, hb3⟩
      obtain ⟨hc3, hf3⟩ := bcell hb3
      have hz3 : w.heap.size + 1 < w3.heap.size := by have := hb3.size; omega
      have hy3 : w.heap.size < w3.heap.size := by omega
      have bw3 : Below w.heap.size w w3 := bw2.trans (hb3.mono (by have := bw2.size; omega))
      go_wp2
      refine bodyPost_ret (v := unV (0, 0, 13)) (by simp [results, Tryz.results148, go_sem, unV, hc, hf, hz, hc2, hf2, hz2, hc3, hf3, hz3]) rfl ⟨rfl, ?_⟩
      exact ((bw3.setCell (by simp) _).setCell (by simp) _).setCell (by simp) _
    · have HR : Hid (unR op k n (Ok.opk op k 0) true = (k, -n, 0)) := (by rw [HU.out]; simp [*] : unR op k n (Ok.opk op k 0) true = (k, -n, 0))
      have HS : Hid (sub64 0 n = (-n, 0)) := (by unfold sub64; unfold inI at bn; split <;> simp <;> omega : sub64 0 n = (-n, 0))
      clear HU c4
      rw [HR.out]
      go_enter Tryz.func148, Tryz.ntmps148
      go_wp2_with (first | (go_at_call 52; refine (within_any _ _ _ _).mono ?_; rintro e w' ⟨rfl, rfl⟩))
      refine (vok_impl k n s _ hs (tabs_below hT bw0)).mono ?_
      rw [HV.out]
      rintro e w1 ⟨rfl, hb⟩
      obtain ⟨hc, hf⟩ := bcell hb
      have hz : w.heap.size + 1 < w1.heap.size := by have := hb.size; simp at this; omega
      have hy : w.heap.size < w1.heap.size := by omega
      have bw1 : Below w.heap.size w w1 := bw0.trans (hb.mono (by simp; omega))
      go_wp2_with fail
      refine (Ok.opKind_impl _ _ _ _).mono ?_
      rintro e w2 ⟨rfl, hb2⟩
      obtain ⟨hc2, hf2⟩ := bcell hb2
      have hz2 : w.heap.size + 1 < w2.heap.size := by have := hb2.size; omega
      have hy2 : w.heap.size < w2.heap.size := by omega
      have bw2 : Below w.heap.size w w2 := bw1.trans (hb2.mono (by have := bw1.size; omega))
      go_wp2_with fail
      refine (subInts_any 0 n _ (by decide) wn).mono ?_
      rw [HS.out]
      rintro e w' ⟨rfl, rfl⟩
      go_wp2_with fail
      refine (numbered_ok _ _ _).mono ?_
      rintro e w3 ⟨rfl, hb3⟩
      obtain ⟨hc3, hf3⟩ := bcell hb3
      have hz3 : w.heap.size + 1 < w3.heap.size := by have := hb3.size; omega
      have hy3 : w.heap.size < w3.heap.size := by omega
      have bw3 : Below w.heap.size w w3 := bw2.trans (hb3.mono (by have := bw2.size; omega))
      go_wp2
      refine bodyPost_ret (v := unV (k, -n, 0)) (by simp [results, Tryz.results148, go_sem, unV, hc, hf, hz, hc2, hf2, hz2, hc3, hf3, hz3]) rfl ⟨rfl, ?_⟩
      exact ((bw3.setCell (by simp) _).setCell (by simp) _).setCell (by simp) _
end Go.Proofs.YtdcdoeolaongkaaGreatDoor
/-
  DERIVED: THE SHELF's CONTRACTS AT THIS DUMP, IN PLAIN WORDS (tools/lay-plain.mjs out of 'YtdcdoeolaongkaaGreatDoorS2.lean', which tools/lay-shelf.mjs wrote): THE SAME DECLARATIONS UNDER THE SAME NAMES: 'import', 'namespace', 'open', 'def', 'theorem' AND NOTHING ELSE: no command of the shelf's: FOR A HAND-IN. Each laying: the table of numbers ('.._ren') and one theorem, a field a fact of the dump's own or the kernel's comparison; each contract: ONE APPLICATION.
-/
namespace Go.Proofs
open Go.Shelf
def Tryz.lays106_ren : Go.Shelf.Ren := ⟨fun | 106 => 119 | 213 => 172 | 265 => 204 | n => n, fun | 9 => 9 | 3 => 3 | n => n, fun | n => n⟩
theorem Tryz.lays106 : Go.Proofs.Lays.n106 Tryz.prog Tryz.lays106_ren := {
  mixed := by kernel_rfl
  f106 := Tryz.func119.trans (congrArg some (by kernel_rfl))
  f213 := Tryz.func172.trans (congrArg some (by kernel_rfl))
  f265 := Tryz.func204.trans (congrArg some (by kernel_rfl))
  t3 := Tryz.underlying3
  a3 := Tryz.isAgg3
  z3 := Tryz.sizeOf3
  v3 := Tryz.zeroValue3
  t9 := Tryz.underlying9
  a9 := Tryz.isAgg9
  z9 := Tryz.sizeOf9
  v9 := Tryz.zeroValue9 }
open Go.RowKit in
/-- strings.Compare: "Compare returns an integer comparing two strings lexicographically. The result will be 0 if a == b, -1 if a < b, and +1 if a > b.": IT RETURNS 'Lib.compareBytes a b'; the world is as it was. (LAID: no walk: one application.) -/
theorem Tryz.strings_Compare (a b : ByteArray) (w : World) :
    Calls Tryz.prog 119 #[.string a, .string b] w fun e w' => e = .returned (.int .i64 (Lib.compareBytes a.data.toList b.data.toList)) ∧ w' = w := Any.strings_Compare Tryz.lays106 a b w
def Tryz.lays160_ren : Go.Shelf.Ren := ⟨fun | 160 => 154 | 232 => 188 | 231 => 187 | 227 => 189 | 234 => 191 | 233 => 190 | 236 => 193 | 235 => 192 | 228 => 212 | 271 => 214 | 151 => 213 | 197 => 206 | 120 => 226 | 152 => 225 | 260 => 224 | 137 => 236 | 119 => 237 | 224 => 229 | 225 => 228 | 217 => 227 | 266 => 238 | n => n, fun | 9 => 9 | 4 => 4 | 3 => 3 | 5 => 5 | 117 => 160 | 116 => 159 | 0 => 0 | 124 => 163 | 21 => 21 | 105 => 172 | 46 => 140 | 119 => 136 | 139 => 139 | 138 => 138 | n => n, fun | 3 => 0 | 4 => 1 | n => n⟩
theorem Tryz.lays160 : Go.Proofs.Lays.n160 Tryz.prog Tryz.lays160_ren := {
  mixed := by kernel_rfl
  f119 := Tryz.func237.trans (congrArg some (by kernel_rfl))
  f120 := Tryz.func226.trans (congrArg some (by kernel_rfl))
  f137 := Tryz.func236.trans (congrArg some (by kernel_rfl))
  f151 := Tryz.func213.trans (congrArg some (by kernel_rfl))
  f152 := Tryz.func225.trans (congrArg some (by kernel_rfl))
  f160 := Tryz.func154.trans (congrArg some (by kernel_rfl))
  f197 := Tryz.func206.trans (congrArg some (by kernel_rfl))
  f217 := Tryz.func227.trans (congrArg some (by kernel_rfl))
  f224 := Tryz.func229.trans (congrArg some (by kernel_rfl))
  f225 := Tryz.func228.trans (congrArg some (by kernel_rfl))
  f227 := Tryz.func189.trans (congrArg some (by kernel_rfl))
  f228 := Tryz.func212.trans (congrArg some (by kernel_rfl))
  f231 := Tryz.func187.trans (congrArg some (by kernel_rfl))
  f232 := Tryz.func188.trans (congrArg some (by kernel_rfl))
  f233 := Tryz.func190.trans (congrArg some (by kernel_rfl))
  f234 := Tryz.func191.trans (congrArg some (by kernel_rfl))
  f235 := Tryz.func192.trans (congrArg some (by kernel_rfl))
  f236 := Tryz.func193.trans (congrArg some (by kernel_rfl))
  f260 := Tryz.func224.trans (congrArg some (by kernel_rfl))
  f266 := Tryz.func238.trans (congrArg some (by kernel_rfl))
  f271 := Tryz.func214.trans (congrArg some (by kernel_rfl))
  t0 := Tryz.underlying0
  a0 := Tryz.isAgg0
  z0 := Tryz.sizeOf0
  v0 := Tryz.zeroValue0
  t3 := Tryz.underlying3
  a3 := Tryz.isAgg3
  z3 := Tryz.sizeOf3
  v3 := Tryz.zeroValue3
  t4 := Tryz.underlying4
  a4 := Tryz.isAgg4
  z4 := Tryz.sizeOf4
  v4 := Tryz.zeroValue4
  t5 := Tryz.underlying5
  a5 := Tryz.isAgg5
  z5 := Tryz.sizeOf5
  v5 := Tryz.zeroValue5
  t9 := Tryz.underlying9
  a9 := Tryz.isAgg9
  z9 := Tryz.sizeOf9
  v9 := Tryz.zeroValue9
  t21 := Tryz.underlying21
  a21 := Tryz.isAgg21
  z21 := Tryz.sizeOf21
  v21 := Tryz.zeroValue21
  t46 := Tryz.underlying140
  a46 := Tryz.isAgg140
  z46 := Tryz.sizeOf140
  v46 := Tryz.zeroValue140
  t105 := Tryz.underlying172
  a105 := Tryz.isAgg172
  z105 := Tryz.sizeOf172
  v105 := Tryz.zeroValue172
  t116 := Tryz.underlying159
  a116 := Tryz.isAgg159
  z116 := Tryz.sizeOf159
  t117 := Tryz.underlying160
  a117 := Tryz.isAgg160
  z117 := Tryz.sizeOf160
  v117 := Tryz.zeroValue160
  t119 := Tryz.underlying136
  a119 := Tryz.isAgg136
  z119 := Tryz.sizeOf136
  t124 := Tryz.underlying163
  a124 := Tryz.isAgg163
  z124 := Tryz.sizeOf163
  v124 := Tryz.zeroValue163
  t138 := Tryz.underlying138
  a138 := Tryz.isAgg138
  z138 := Tryz.sizeOf138
  v138 := Tryz.zeroValue138
  t139 := Tryz.underlying139
  a139 := Tryz.isAgg139
  z139 := Tryz.sizeOf139
  v139 := Tryz.zeroValue139
  g3 := by kernel_rfl
  g4 := by kernel_rfl }
open Go.RowKit in
/-- strings.Trim: "Trim returns a slice of the string s with all leading and trailing Unicode code points contained in cutset removed.": AT A cutset OF ONE ASCII BYTE. THE WORLD BEHIND IT: as it was, or (where s is not empty) with ONE DRAW MORE off the tape: the statement 'return trimLeftByte(trimRightByte(s, c), c)' draws its order of evaluation. (LAID: no walk: one application.) -/
theorem Tryz.strings_Trim_one (s : ByteArray) (c : UInt8) (hc : c.toNat < 128) (w : World) (hs : s.size ≤ 9223372036854775807) :
    Calls Tryz.prog 154 #[.string s, .string ⟨#[c]⟩] w fun e w' => e = .returned (.string ⟨(Lib.trimB s.data.toList c).toArray⟩) ∧ (w' = w ∨ w' = w.drew) := Any.strings_Trim_one Tryz.lays160 s c hc w hs
def Tryz.lays169_ren : Go.Shelf.Ren := ⟨fun | 169 => 153 | n => n, fun | 70 => 126 | 9 => 9 | 0 => 0 | 72 => 128 | 37 => 27 | 127 => 156 | 3 => 3 | 5 => 5 | n => n, fun | n => n⟩
theorem Tryz.lays169 : Go.Proofs.Lays.n169 Tryz.prog Tryz.lays169_ren := {
  mixed := by kernel_rfl
  f169 := Tryz.func153.trans (congrArg some (by kernel_rfl))
  t0 := Tryz.underlying0
  a0 := Tryz.isAgg0
  z0 := Tryz.sizeOf0
  v0 := Tryz.zeroValue0
  t3 := Tryz.underlying3
  a3 := Tryz.isAgg3
  z3 := Tryz.sizeOf3
  v3 := Tryz.zeroValue3
  t9 := Tryz.underlying9
  a9 := Tryz.isAgg9
  z9 := Tryz.sizeOf9
  v9 := Tryz.zeroValue9
  t37 := Tryz.underlying27
  a37 := Tryz.isAgg27
  z37 := Tryz.sizeOf27
  v37 := Tryz.zeroValue27
  t70 := Tryz.underlying126
  a70 := Tryz.isAgg126
  z70 := Tryz.sizeOf126
  v70 := Tryz.zeroValue126
  t72 := Tryz.underlying128
  a72 := Tryz.isAgg128
  z72 := Tryz.sizeOf128
  v72 := Tryz.zeroValue128
  t127 := Tryz.underlying156
  a127 := Tryz.isAgg156
  z127 := Tryz.sizeOf156
  v127 := Tryz.zeroValue156 }
theorem Tryz.Builder_Extra_169 : Builder.Extra Tryz.prog Tryz.lays169_ren := {
  sizeBuilder := by kernel_rfl
  liesBuilder := by kernel_rfl
  t5 := Tryz.underlying5
  a5 := Tryz.isAgg5
  z5 := Tryz.sizeOf5
  v5 := Tryz.zeroValue5
  infoByte := by kernel_rfl
  cellsByte := by kernel_rfl
  sizeByte := by kernel_rfl
  neB5 := by decide }
open Go.RowKit in
/-- (*strings.Builder).String: "String returns the accumulated string.": WHATEVER THE BUILDER HOLDS; THE FORM '_k': OVER 'Lib.IsBuilderF' (a builder that 'String()' may have read), AND WITH THE FRAME THAT REACHES ABOVE THE BUILDER: 'Lib.OthersKept': every block that is not b and is no row of uint8's stands as it stood: the iterator of a range among them. (LAID: no walk: one application.) -/
theorem Tryz.Builder_String_any_k (B b : Nat) (l : List UInt8) (w : World) (h : Lib.IsBuilderF 128 5 B b (Lib.byteCells l) w) (hBw : B ≤ w.heap.size) :
    Calls Tryz.prog 153 #[.pointer (some ⟨b, 0, none⟩)] w fun e w' => e = .returned (.string ⟨l.toArray⟩) ∧ (Lib.IsBuilderF 128 5 B b (Lib.byteCells l) w' ∧ Below B w w' ∧ Lib.OthersKept 5 (some b) w w') := Any.Builder_String_any_k Tryz.lays169 Tryz.Builder_Extra_169 B b l w h hBw
open Go.RowKit in
/-- (*strings.Builder).String OF A BUILDER THAT HOLDS NO BYTE: the empty string; THE FORM '_k': OVER 'Lib.IsBuilderF' (a builder that 'String()' may have read), AND WITH THE FRAME THAT REACHES ABOVE THE BUILDER: 'Lib.OthersKept': every block that is not b and is no row of uint8's stands as it stood: the iterator of a range among them. (LAID: no walk: one application.) -/
theorem Tryz.Builder_String_empty_k (B b : Nat) (w : World) (h : Lib.IsBuilderF 128 5 B b [] w) (hBw : B ≤ w.heap.size) :
    Calls Tryz.prog 153 #[.pointer (some ⟨b, 0, none⟩)] w fun e w' => e = .returned (.string ⟨#[]⟩) ∧ (Lib.IsBuilderF 128 5 B b [] w' ∧ Below B w w' ∧ Lib.OthersKept 5 (some b) w w') := Any.Builder_String_empty_k Tryz.lays169 Tryz.Builder_Extra_169 B b w h hBw
def Tryz.lays230_ren : Go.Shelf.Ren := ⟨fun | 230 => 183 | 197 => 206 | 118 => 207 | 165 => 197 | 166 => 198 | 168 => 152 | 270 => 208 | 167 => 209 | 169 => 153 | 260 => 224 | 240 => 185 | 241 => 217 | 242 => 186 | 276 => 210 | 277 => 231 | 278 => 211 | n => n, fun | 107 => 154 | 9 => 9 | 72 => 128 | 0 => 0 | 4 => 4 | 3 => 3 | 21 => 21 | 105 => 172 | 76 => 131 | 5 => 5 | 75 => 130 | 70 => 126 | 20 => 20 | 37 => 27 | 127 => 156 | 119 => 136 | 46 => 140 | 139 => 139 | 138 => 138 | 164 => 176 | 51 => 178 | 80 => 133 | n => n, fun | 3 => 0 | 4 => 1 | n => n⟩
theorem Tryz.lays230 : Go.Proofs.Lays.n230 Tryz.prog Tryz.lays230_ren := {
  mixed := by kernel_rfl
  f118 := Tryz.func207.trans (congrArg some (by kernel_rfl))
  f165 := Tryz.func197.trans (congrArg some (by kernel_rfl))
  f166 := Tryz.func198.trans (congrArg some (by kernel_rfl))
  f167 := Tryz.func209.trans (congrArg some (by kernel_rfl))
  f168 := Tryz.func152.trans (congrArg some (by kernel_rfl))
  f169 := Tryz.func153.trans (congrArg some (by kernel_rfl))
  f197 := Tryz.func206.trans (congrArg some (by kernel_rfl))
  f230 := Tryz.func183.trans (congrArg some (by kernel_rfl))
  f240 := Tryz.func185.trans (congrArg some (by kernel_rfl))
  f241 := Tryz.func217.trans (congrArg some (by kernel_rfl))
  f242 := Tryz.func186.trans (congrArg some (by kernel_rfl))
  f260 := Tryz.func224.trans (congrArg some (by kernel_rfl))
  f270 := Tryz.func208.trans (congrArg some (by kernel_rfl))
  f276 := Tryz.func210.trans (congrArg some (by kernel_rfl))
  f277 := Tryz.func231.trans (congrArg some (by kernel_rfl))
  f278 := Tryz.func211.trans (congrArg some (by kernel_rfl))
  t0 := Tryz.underlying0
  a0 := Tryz.isAgg0
  z0 := Tryz.sizeOf0
  v0 := Tryz.zeroValue0
  t3 := Tryz.underlying3
  a3 := Tryz.isAgg3
  z3 := Tryz.sizeOf3
  v3 := Tryz.zeroValue3
  t4 := Tryz.underlying4
  a4 := Tryz.isAgg4
  z4 := Tryz.sizeOf4
  v4 := Tryz.zeroValue4
  t5 := Tryz.underlying5
  a5 := Tryz.isAgg5
  z5 := Tryz.sizeOf5
  v5 := Tryz.zeroValue5
  t9 := Tryz.underlying9
  a9 := Tryz.isAgg9
  z9 := Tryz.sizeOf9
  v9 := Tryz.zeroValue9
  t20 := Tryz.underlying20
  a20 := Tryz.isAgg20
  z20 := Tryz.sizeOf20
  v20 := Tryz.zeroValue20
  t21 := Tryz.underlying21
  a21 := Tryz.isAgg21
  z21 := Tryz.sizeOf21
  v21 := Tryz.zeroValue21
  t37 := Tryz.underlying27
  a37 := Tryz.isAgg27
  z37 := Tryz.sizeOf27
  v37 := Tryz.zeroValue27
  t46 := Tryz.underlying140
  a46 := Tryz.isAgg140
  z46 := Tryz.sizeOf140
  v46 := Tryz.zeroValue140
  t51 := Tryz.underlying178
  a51 := Tryz.isAgg178
  z51 := Tryz.sizeOf178
  v51 := Tryz.zeroValue178
  t70 := Tryz.underlying126
  a70 := Tryz.isAgg126
  z70 := Tryz.sizeOf126
  v70 := Tryz.zeroValue126
  t72 := Tryz.underlying128
  a72 := Tryz.isAgg128
  z72 := Tryz.sizeOf128
  v72 := Tryz.zeroValue128
  t75 := Tryz.underlying130
  a75 := Tryz.isAgg130
  z75 := Tryz.sizeOf130
  v75 := Tryz.zeroValue130
  t76 := Tryz.underlying131
  a76 := Tryz.isAgg131
  z76 := Tryz.sizeOf131
  v76 := Tryz.zeroValue131
  t105 := Tryz.underlying172
  a105 := Tryz.isAgg172
  z105 := Tryz.sizeOf172
  v105 := Tryz.zeroValue172
  t107 := Tryz.underlying154
  a107 := Tryz.isAgg154
  z107 := Tryz.sizeOf154
  v107 := Tryz.zeroValue154
  t119 := Tryz.underlying136
  a119 := Tryz.isAgg136
  z119 := Tryz.sizeOf136
  t127 := Tryz.underlying156
  a127 := Tryz.isAgg156
  z127 := Tryz.sizeOf156
  v127 := Tryz.zeroValue156
  t138 := Tryz.underlying138
  a138 := Tryz.isAgg138
  z138 := Tryz.sizeOf138
  v138 := Tryz.zeroValue138
  t139 := Tryz.underlying139
  a139 := Tryz.isAgg139
  z139 := Tryz.sizeOf139
  v139 := Tryz.zeroValue139
  t164 := Tryz.underlying176
  a164 := Tryz.isAgg176
  z164 := Tryz.sizeOf176
  v164 := Tryz.zeroValue176
  g3 := by kernel_rfl
  g4 := by kernel_rfl }
theorem Tryz.Builder_Extra_230 : Builder.Extra Tryz.prog Tryz.lays230_ren := {
  sizeBuilder := by kernel_rfl
  liesBuilder := by kernel_rfl
  t5 := Tryz.underlying5
  a5 := Tryz.isAgg5
  z5 := Tryz.sizeOf5
  v5 := Tryz.zeroValue5
  infoByte := by kernel_rfl
  cellsByte := by kernel_rfl
  sizeByte := by kernel_rfl
  neB5 := by decide }
open Go.RowKit Go.Lib in
theorem Tryz.strings_Map_runes (g : Nat) (lb : Array Value) (eg : ∀ args w, (callFunc g args).run Tryz.prog w = .ok (.enter g args) w) (f : Int → Int) (s : ByteArray) (w : World) (hs : s.size < 35184372088832) (hf : MapAtRunes Tryz.prog g lb f w) (hnn : ∀ x : Nat, x ≤ 1114111 → 0 ≤ f x ∧ f x ≤ 2147483647) (hT : Lib.Utf8Tabs 0 1 w) :
    Calls Tryz.prog 183 #[.func (.func g) #[] lb, .string s] w fun e w' => e = .returned (.string ⟨(Lib.mapD f s.data.toList).toArray⟩) ∧ Below w.heap.size w w' := Any.strings_Map_runes Tryz.lays230 Tryz.Builder_Extra_230 g lb eg f s w hs hf hnn hT
end Go.Proofs
namespace Go.Proofs.YtdcdoeolaongkaaGreatDoor
open Go.ChangeShapes Go.WideShapes Go.ChangeAt Go.RowKit Go.Shelf
set_option linter.unusedVariables false
set_option linter.unusedSimpArgs false
set_option maxRecDepth 100000
def sgn (a b : Int) : Int := if a < b then -1 else if b < a then 1 else 0
def cmpID (n u : Int) : Int := sgn (n * 10000) u
theorem sgn_bd (a b : Int) : -1 ≤ sgn a b ∧ sgn a b ≤ 1 := by unfold sgn; split <;> (try split) <;> omega
theorem sign_any (a b : Int) (w : World) : Calls Tryz.prog 143 #[.int .i64 a, .int .i64 b] w fun e w' => e = .returned (.int .i64 (sgn a b)) ∧ w' = w := by
  go_enter Tryz.func143, Tryz.ntmps143
  go_wp2
  all_goals
    go_ret
    refine ⟨ret_int ?_, rfl⟩
    go_light
    unfold sgn
    split <;> (try split) <;> omega
theorem cmpInt_any (a b : Int) (w : World) : Calls Tryz.prog 120 #[.int .i64 a, .int .i64 b] w fun e w' => e = .returned (.int .i64 (sgn a b)) ∧ w' = w := by
  go_enter Tryz.func120, Tryz.ntmps120
  go_wp2
  all_goals
    go_ret
    refine ⟨ret_int ?_, rfl⟩
    go_light
    unfold sgn
    split <;> (try split) <;> (try simp_all) <;> omega
def dU (n : Int) : Int × Int := if -99999999999999 ≤ n ∧ n ≤ 99999999999999 then (n * 10000, 0) else (0, 13)
theorem decUnits_any (n : Int) (w : World) : Calls Tryz.prog 48 #[.int .i64 n] w fun e w' => e = .returned (.tuple #[.int .i64 (dU n).1, .int .i64 (dU n).2]) ∧ w' = w := by
  by_cases h : -99999999999999 ≤ n ∧ n ≤ 99999999999999
  · have HD : Hid (dU n = (n * 10000, 0)) := (by unfold dU; rw [if_pos h] : dU n = (n * 10000, 0))
    obtain ⟨h1, h2⟩ := h
    have d1 : decide (-99999999999999 ≤ n) = true := by simpa using h1
    have d2 : decide (n ≤ 99999999999999) = true := by simpa using h2
    rw [HD.out]
    go_enter Tryz.func48, Tryz.ntmps48
    go_wp2_with (go_at_call 52; refine (within_any _ _ _ _).mono ?_; rintro e w' ⟨rfl, rfl⟩)
    go_ret2
    exact ⟨rfl, rfl⟩
  · have HD : Hid (dU n = (0, 13)) := (by unfold dU; rw [if_neg h] : dU n = (0, 13))
    rw [HD.out]
    have hd : (decide (-99999999999999 ≤ n) && decide (n ≤ 99999999999999)) = false := by simp; omega
    clear h
    go_enter Tryz.func48, Tryz.ntmps48
    go_wp2_with (go_at_call 52; refine (within_any _ _ _ _).mono ?_; rw [hd]; rintro e w' ⟨rfl, rfl⟩)
    go_ret2
    exact ⟨rfl, rfl⟩
theorem intDec_impl (n u : Int) (w : World) (hu : -999999999999999999 ≤ u ∧ u ≤ 999999999999999999) : Calls Tryz.prog 121 #[.int .i64 n, .int .i64 u] w fun e w' => e = .returned (.int .i64 (cmpID n u)) ∧ w' = w := by
  by_cases h : -99999999999999 ≤ n ∧ n ≤ 99999999999999
  · have HD : Hid (dU n = (n * 10000, 0)) := (by unfold dU; rw [if_pos h] : dU n = (n * 10000, 0))
    clear h
    go_enter Tryz.func121, Tryz.ntmps121
    go_wp2_with (first | (go_at_call 48; refine (decUnits_any _ _).mono ?_; rw [HD.out]; rintro e w' ⟨rfl, rfl⟩) | (go_at_call 120; refine (cmpInt_any _ _ _).mono ?_; rintro e w' ⟨rfl, rfl⟩))
    go_ret
    exact ⟨rfl, rfl⟩
  · have HD : Hid (dU n = (0, 13)) := (by unfold dU; rw [if_neg h] : dU n = (0, 13))
    have HC : Hid (sgn n 0 = cmpID n u) := (by unfold cmpID sgn; split <;> split <;> (try split) <;> (try split) <;> omega : sgn n 0 = cmpID n u)
    clear h hu
    go_enter Tryz.func121, Tryz.ntmps121
    go_wp2_with (first | (go_at_call 48; refine (decUnits_any _ _).mono ?_; rw [HD.out]; rintro e w' ⟨rfl, rfl⟩) | (go_at_call 120; refine (cmpInt_any _ _ _).mono ?_; rintro e w' ⟨rfl, rfl⟩))
    go_ret
    exact ⟨ret_int HC.out, rfl⟩
theorem tqC (u : Int) : u = u.tdiv 10000 * 10000 + u.tmod 10000 ∧ u.tmod 10000 < 10000 ∧ -10000 < u.tmod 10000 ∧ (0 ≤ u → 0 ≤ u.tmod 10000) ∧ (u ≤ 0 → u.tmod 10000 ≤ 0) := by
  have h1 := Int.mul_tdiv_add_tmod u 10000
  have h2 := Int.tmod_lt_of_pos u (show (0 : Int) < 10000 by decide)
  have h3 : 0 ≤ u → 0 ≤ u.tmod 10000 := fun h => Int.tmod_nonneg _ h
  have h4 : u ≤ 0 → u.tmod 10000 ≤ 0 := fun h => by
    have e := Int.neg_tmod (-u) 10000
    rw [Int.neg_neg] at e
    have := Int.tmod_nonneg 10000 (show 0 ≤ -u by omega)
    omega
  have h5 : -10000 < u.tmod 10000 := by
    have e := Int.neg_tmod (-u) 10000
    rw [Int.neg_neg] at e
    have := Int.tmod_lt_of_pos (-u) (show (0 : Int) < 10000 by decide)
    omega
  exact ⟨by omega, h2, h5, h3, h4⟩
theorem intDec_spec (n u : Int) (w : World) (hu : -999999999999999999 ≤ u ∧ u ≤ 999999999999999999) : Calls Tryz.prog 145 #[.int .i64 n, .int .i64 u] w fun e w' => e = .returned (.int .i64 (cmpID n u)) ∧ w' = w := by
  obtain ⟨h1, h2⟩ := hu
  go_enter Tryz.func145, Tryz.ntmps145
  go_wp2_with (go_at_call 143; refine (sign_any _ _ _).mono ?_; rintro e w' ⟨rfl, rfl⟩)
  all_goals
    go_ret
    refine ⟨ret_int ?_, rfl⟩
    go_light
    have ht := tqC u
    try unfold wrap64 at *
    unfold cmpID sgn
    generalize u.tdiv 10000 = q at *
    generalize u.tmod 10000 = r at *
    simp only [bne_iff_ne, ne_eq, bne_eq_false_iff_eq] at *
    repeat' split
    all_goals omega
/-- The order of two values that go together. -/
def ordV (k1 n1 : Int) (s1 : ByteArray) (k2 n2 : Int) (s2 : ByteArray) : Int :=
  if k1 = 3 ∧ k2 = 3 then Lib.compareBytes s1.data.toList s2.data.toList
  else if k1 = k2 then sgn n1 n2
  else if k1 = 0 then -1
  else if k2 = 0 then 1
  else if k1 = 1 then cmpID n1 n2
  else - cmpID n2 n1
def together (k1 k2 : Int) : Bool := k1 == 0 || k2 == 0 || k1 == k2 || (k1 == 1 && k2 == 2) || (k1 == 2 && k2 == 1)
theorem opk_eq (k1 k2 : Int) (h1 : 0 ≤ k1 ∧ k1 ≤ 5) (h2 : 0 ≤ k2 ∧ k2 ≤ 5) : Ok.opk 7 k1 k2 = if together k1 k2 then 4 else -1 := by
  have e1 : k1 = 0 ∨ k1 = 1 ∨ k1 = 2 ∨ k1 = 3 ∨ k1 = 4 ∨ k1 = 5 := by omega
  have e2 : k2 = 0 ∨ k2 = 1 ∨ k2 = 2 ∨ k2 = 3 ∨ k2 = 4 ∨ k2 = 5 := by omega
  rcases e1 with rfl | rfl | rfl | rfl | rfl | rfl <;> rcases e2 with rfl | rfl | rfl | rfl | rfl | rfl <;> decide
end Go.Proofs.YtdcdoeolaongkaaGreatDoor
namespace Go.Proofs.YtdcdoeolaongkaaGreatDoor
open Go.ChangeShapes Go.WideShapes Go.ChangeAt Go.RowKit Go.Shelf
set_option linter.unusedVariables false
set_option linter.unusedSimpArgs false
set_option maxRecDepth 100000
/-- What the order of two valid values leans on. -/
structure Fit (k1 n1 k2 n2 : Int) : Prop where
  tog : together k1 k2 = true
  d1 : k1 = 2 → -999999999999999999 ≤ n1 ∧ n1 ≤ 999999999999999999
  d2 : k2 = 2 → -999999999999999999 ≤ n2 ∧ n2 ≤ 999999999999999999
  z1 : k1 = 0 → n1 = 0
  z2 : k2 = 0 → n2 = 0
set_option maxHeartbeats 2000000 in
theorem orderOf_any (k1 n1 : Int) (s1 : ByteArray) (k2 n2 : Int) (s2 : ByteArray) (w : World) (hF : Fit k1 n1 k2 n2) :
    Calls Tryz.prog 59 #[.agg #[.int .i64 k1, .int .i64 n1, .string s1], .agg #[.int .i64 k2, .int .i64 n2, .string s2]] w fun e w' => e = .returned (.int .i64 (ordV k1 n1 s1 k2 n2 s2)) ∧ Below w.heap.size w w' := by
  obtain ⟨ht, d1, d2, z1, z2⟩ := hF
  clear z1 z2
  have bw0 : Below w.heap.size w ((w.alloc (.cells #[.int .i64 k1, .int .i64 n1, .string s1] 29)).alloc (.cells #[.int .i64 k2, .int .i64 n2, .string s2] 29)) := (below_alloc w _).alloc (by simp) _
  have cs : (k1 = 3 ∧ k2 = 3) ∨ (¬ k1 = 3 ∧ k1 = k2) ∨ (¬ k1 = k2 ∧ k1 = 0) ∨ (¬ k1 = k2 ∧ ¬ k1 = 0 ∧ k2 = 0) ∨ (k1 = 1 ∧ k2 = 2) ∨ (k1 = 2 ∧ k2 = 1) := by
    simp [together] at ht; omega
  clear ht
  rcases cs with ⟨h, h'⟩ | ⟨h, h'⟩ | ⟨h, h'⟩ | ⟨h, h', h''⟩ | ⟨h, h'⟩ | ⟨h, h'⟩
  · subst h h'
    have HO : Hid (ordV 3 n1 s1 3 n2 s2 = Lib.compareBytes s1.data.toList s2.data.toList) := (by simp [ordV] : ordV 3 n1 s1 3 n2 s2 = Lib.compareBytes s1.data.toList s2.data.toList)
    rw [HO.out]
    go_enter Tryz.func59, Tryz.ntmps59
    go_wp2_with (go_at_call 119; refine (Tryz.strings_Compare _ _ _).mono ?_; rintro e w' ⟨rfl, rfl⟩)
    go_ret
    exact ⟨rfl, bw0⟩
  · subst h'
    have e1 : (k1 == 3) = false := by simpa using h
    have HO : Hid (ordV k1 n1 s1 k1 n2 s2 = sgn n1 n2) := (by simp [ordV, h] : ordV k1 n1 s1 k1 n2 s2 = sgn n1 n2)
    rw [HO.out]
    clear h
    go_enter Tryz.func59, Tryz.ntmps59
    go_wp2_with (go_at_call 120; refine (cmpInt_any _ _ _).mono ?_; rintro e w' ⟨rfl, rfl⟩)
    go_ret
    exact ⟨rfl, bw0⟩
  · subst h'
    have e1 : ((0 : Int) == k2) = false := by simpa using h
    have HO : Hid (ordV 0 n1 s1 k2 n2 s2 = -1) := (by simp [ordV, h] : ordV 0 n1 s1 k2 n2 s2 = -1)
    rw [HO.out]
    clear h
    go_enter Tryz.func59, Tryz.ntmps59
    go_wp2
    go_ret
    exact ⟨rfl, bw0⟩
  · subst h''
    have e1 : (k1 == 0) = false := by simpa using h'
    have HO : Hid (ordV k1 n1 s1 0 n2 s2 = 1) := (by simp [ordV, h'] : ordV k1 n1 s1 0 n2 s2 = 1)
    rw [HO.out]
    clear h h'
    by_cases h3 : k1 = 3
    · subst h3
      go_enter Tryz.func59, Tryz.ntmps59
      go_wp2
      go_ret
      exact ⟨rfl, bw0⟩
    · have e3 : (k1 == 3) = false := by simpa using h3
      clear h3
      go_enter Tryz.func59, Tryz.ntmps59
      go_wp2
      go_ret
      exact ⟨rfl, bw0⟩
  · subst h h'
    have b2 := d2 rfl
    have HO : Hid (ordV 1 n1 s1 2 n2 s2 = cmpID n1 n2) := (by simp [ordV] : ordV 1 n1 s1 2 n2 s2 = cmpID n1 n2)
    rw [HO.out]
    clear d1 d2
    go_enter Tryz.func59, Tryz.ntmps59
    go_wp2_with (go_at_call 121; refine (intDec_impl _ _ _ b2).mono ?_; rintro e w' ⟨rfl, rfl⟩)
    go_ret
    exact ⟨rfl, bw0⟩
  · subst h h'
    have b1 := d1 rfl
    have HO : Hid (ordV 2 n1 s1 1 n2 s2 = - cmpID n2 n1) := (by simp [ordV] : ordV 2 n1 s1 1 n2 s2 = - cmpID n2 n1)
    have hs := sgn_bd (n2 * 10000) n1
    have hs' : -1 ≤ cmpID n2 n1 ∧ cmpID n2 n1 ≤ 1 := hs
    rw [HO.out]
    clear d1 d2 hs
    go_enter Tryz.func59, Tryz.ntmps59
    go_wp2_with (go_at_call 121; refine (intDec_impl _ _ _ b1).mono ?_; rintro e w' ⟨rfl, rfl⟩)
    go_ret
    exact ⟨ret_int (by first | rfl | omega), bw0⟩
theorem vok_kind {k n : Int} {s : ByteArray} (h : vok k n s = true) : (0 ≤ k ∧ k ≤ 5) ∧ (k = 2 → -999999999999999999 ≤ n ∧ n ≤ 999999999999999999) ∧ (k = 0 → n = 0) := by
  unfold vok at h
  refine ⟨?_, ?_, ?_⟩
  · by_cases e : k = 0 ∨ k = 1 ∨ k = 2 ∨ k = 3 ∨ k = 4 ∨ k = 5
    · omega
    · rw [if_neg (by omega), if_neg (by omega), if_neg (by omega), if_neg (by omega), if_neg (by omega), if_neg (by omega)] at h; cases h
  · intro e; subst e; simp at h; omega
  · intro e; subst e; simp at h; omega
theorem fit_of {k1 n1 k2 n2 : Int} {s1 s2 : ByteArray} (h1 : vok k1 n1 s1 = true) (h2 : vok k2 n2 s2 = true) (ht : together k1 k2 = true) : Fit k1 n1 k2 n2 :=
  ⟨ht, (vok_kind h1).2.1, (vok_kind h2).2.1, (vok_kind h1).2.2, (vok_kind h2).2.2⟩
def cmpR (k1 n1 : Int) (s1 : ByteArray) (k2 n2 : Int) (s2 : ByteArray) : Int × Int :=
  if vok k1 n1 s1 = false ∨ vok k2 n2 s2 = false then (0, 1) else if together k1 k2 = false then (0, 10) else (ordV k1 n1 s1 k2 n2 s2, 0)
end Go.Proofs.YtdcdoeolaongkaaGreatDoor
namespace Go.Proofs.YtdcdoeolaongkaaGreatDoor.Ca
open Go.ChangeShapes Go.WideShapes Go.ChangeAt Go.RowKit Go.Shelf
set_option linter.unusedVariables false
set_option linter.unusedSimpArgs false
set_option maxRecDepth 100000
theorem one_cells {W : World} {a : Option Addr} {cap : Nat} {k n : Int} {s : ByteArray} (h : RVO W (.slice a 1 cap) [(k, n, s)]) : ∃ g o, a = some ⟨g, o, none⟩ ∧ g < W.heap.size ∧ W.cell? ⟨g, o, none⟩ = some (.int .i64 k) ∧ W.cell? ⟨g, o + 1, none⟩ = some (.int .i64 n) ∧ W.cell? ⟨g, o + 2, none⟩ = some (.string s) := by
  obtain ⟨a', cap', hsl, h2⟩ := h
  simp only [Value.slice.injEq] at hsl
  obtain ⟨rfl, _, rfl⟩ := hsl
  obtain ⟨g, o, ha, hg, hc⟩ := h2 (by simp)
  have := hc 0 (by simp)
  exact ⟨g, o, ha, hg, by simpa using this.1, by simpa using this.2.1, by simpa using this.2.2⟩
theorem two_cells {W : World} {a : Option Addr} {cap : Nat} {k n k' n' : Int} {s s' : ByteArray} (h : RVO W (.slice a 2 cap) [(k, n, s), (k', n', s')]) : ∃ g o, a = some ⟨g, o, none⟩ ∧ g < W.heap.size ∧ (W.cell? ⟨g, o, none⟩ = some (.int .i64 k) ∧ W.cell? ⟨g, o + 1, none⟩ = some (.int .i64 n) ∧ W.cell? ⟨g, o + 2, none⟩ = some (.string s)) ∧ W.cell? ⟨g, o + 3, none⟩ = some (.int .i64 k') ∧ W.cell? ⟨g, o + 3 + 1, none⟩ = some (.int .i64 n') ∧ W.cell? ⟨g, o + 3 + 2, none⟩ = some (.string s') := by
  obtain ⟨a', cap', hsl, h2⟩ := h
  simp only [Value.slice.injEq] at hsl
  obtain ⟨rfl, _, rfl⟩ := hsl
  obtain ⟨g, o, ha, hg, hc⟩ := h2 (by simp)
  have h0 := hc 0 (by simp)
  have h1 := hc 1 (by simp)
  exact ⟨g, o, ha, hg, ⟨by simpa using h0.1, by simpa using h0.2.1, by simpa using h0.2.2⟩, by simpa using h1.1, by simpa using h1.2.1, by simpa using h1.2.2⟩
theorem undrew {W w' : World} (hb : Below W.drew.heap.size W.drew w') : Below W.heap.size W w' := (Below.refl W.heap.size W).drew.trans hb
def zeroC : Array Value := #[.int .i64 0, .int .i64 0, .string ⟨#[]⟩]
/-- What is called ends with a value and a code. -/
def Gives (R : Value → Prop) (w : World) (e : Ending) (w' : World) : Prop := ∃ k n s c, R (Rd.tV k n s c) ∧ e = .returned (Rd.tV k n s c) ∧ Below w.heap.size w w'
theorem Gives.mk {R : Value → Prop} {w w' : World} {k n c : Int} {s : ByteArray} (h : R (Rd.tV k n s c)) (hb : Below w.heap.size w w') : Gives R w (.returned (Rd.tV k n s c)) w' := ⟨k, n, s, c, h, rfl, hb⟩
set_option maxHeartbeats 2000000 in
theorem round_work (k n : Int) (s : ByteArray) (a : Option Addr) (cap : Nat) (W : World) (h : RVO W (.slice a 1 cap) [(k, n, s)]) (h1 : -999999999999999999 ≤ n) (h2 : n ≤ 999999999999999999) :
    Calls Tryz.prog 94 #[.slice a 1 cap] W fun e w' => Gives (fun V => V = (if (Rd.toU (Rd.rndI n)).2 = 0 then Rd.tV 2 (Rd.toU (Rd.rndI n)).1 ⟨#[]⟩ 0 else Rd.tV 0 0 ⟨#[]⟩ 13)) W e w' := by
  obtain ⟨g, o, rfl, hg, c0, c1, c2⟩ := one_cells h
  have bw0 := below_alloc W (.cells #[.int .i64 0, .int .i64 0, .string ⟨#[]⟩] 29)
  have d1 := (bw0.cell (p := ⟨g, o + 1, none⟩) hg).trans c1
  have hr := fun w => Rd.wholeOf_any n w h1 h2
  generalize Rd.rndI n = r at *
  have hU := Rd.toU_two r
  have hdu := fun w => Rd.decUnits_any r w
  generalize Rd.toU r = u at *
  obtain ⟨u1, u2⟩ := u
  simp only at hU hdu
  clear h c0 c2 c1
  rcases hU with rfl | ⟨rfl, rfl⟩
  · go_enter Tryz.func94, Tryz.ntmps94
    go_wp2_with (go_at_call 50; fail)
    refine (hr _).mono ?_
    rintro e w1 ⟨rfl, hb1⟩
    obtain ⟨hc1, hf1⟩ := bcell hb1
    have hz1 : W.heap.size < w1.heap.size := by have := hb1.size; simp at this; omega
    have bw1 : Below W.heap.size W w1 := bw0.trans (hb1.mono (by simp))
    go_wp2_with (first | (go_at_call 48; refine (hdu _).mono ?_; rintro e w0 ⟨rfl, hw⟩; rw [hw]; clear hw w0) | (go_at_call 49; fail))
    refine (numbered_ok 2 u1 _).mono ?_
    rintro e w2 ⟨rfl, hb2⟩
    obtain ⟨hc2, hf2⟩ := bcell hb2
    have hz2 : W.heap.size < w2.heap.size := by have := hb2.size; omega
    have bw2 : Below W.heap.size W w2 := bw1.trans (hb2.mono bw1.size)
    go_wp2
    refine bodyPost_ret (v := Rd.tV 2 u1 ⟨#[]⟩ 0) (by simp [results, Tryz.results94, go_sem, Rd.tV, hc1, hf1, hz1, hc2, hf2, hz2]) rfl (Gives.mk (by simp) ?_)
    exact ((bw2.setCell (Nat.le_refl _) _).setCell (Nat.le_refl _) _).setCell (Nat.le_refl _) _
  · go_enter Tryz.func94, Tryz.ntmps94
    go_wp2_with (go_at_call 50; fail)
    refine (hr _).mono ?_
    rintro e w1 ⟨rfl, hb1⟩
    obtain ⟨hc1, hf1⟩ := bcell hb1
    have hz1 : W.heap.size < w1.heap.size := by have := hb1.size; simp at this; omega
    have bw1 : Below W.heap.size W w1 := bw0.trans (hb1.mono (by simp))
    go_wp2_with (first | (go_at_call 48; refine (hdu _).mono ?_; rintro e w0 ⟨rfl, hw⟩; rw [hw]; clear hw w0) | (go_at_call 49; fail))
    refine (numbered_bad 2 0 13 _ (by decide)).mono ?_
    rintro e w2 ⟨rfl, hb2⟩
    obtain ⟨hc2, hf2⟩ := bcell hb2
    have hz2 : W.heap.size < w2.heap.size := by have := hb2.size; omega
    have bw2 : Below W.heap.size W w2 := bw1.trans (hb2.mono bw1.size)
    go_wp2
    refine bodyPost_ret (v := Rd.tV 0 0 ⟨#[]⟩ 13) (by simp [results, Tryz.results94, go_sem, Rd.tV, hc1, hf1, hz1, hc2, hf2, hz2]) rfl (Gives.mk (by simp) ?_)
    exact ((bw2.setCell (Nat.le_refl _) _).setCell (Nat.le_refl _) _).setCell (Nat.le_refl _) _
set_option maxHeartbeats 2000000 in
theorem length_work (k n : Int) (s : ByteArray) (a : Option Addr) (cap : Nat) (W : World) (h : RVO W (.slice a 1 cap) [(k, n, s)]) (hs : s.size ≤ 1048576) :
    Calls Tryz.prog 85 #[.slice a 1 cap] W fun e w' => Gives (fun V => V = Rd.tV 1 (Lib.runeCount s) ⟨#[]⟩ 0) W e w' := by
  obtain ⟨g, o, rfl, hg, c0, c1, c2⟩ := one_cells h
  have bw0 := below_alloc W (.cells #[.int .i64 0, .int .i64 0, .string ⟨#[]⟩] 29)
  have d2 := (bw0.cell (p := ⟨g, o + 2, none⟩) hg).trans c2
  have hcon := fun w => charCount_any s w (by omega)
  generalize Lib.runeCount s = r at *
  clear h c0 c1 c2
  go_enter Tryz.func85, Tryz.ntmps85
  go_wp2_with (go_at_call 101; fail)
  refine (hcon _).mono ?_
  rintro e w1 ⟨rfl, hb1⟩
  obtain ⟨hc1, hf1⟩ := bcell hb1
  have hz1 : W.heap.size < w1.heap.size := by have := hb1.size; simp at this; omega
  have bw1 : Below W.heap.size W w1 := bw0.trans (hb1.mono (by simp))
  go_wp2
  refine bodyPost_ret (v := Rd.tV 1 r ⟨#[]⟩ 0) (by simp [results, Tryz.results85, go_sem, Rd.tV, hc1, hf1, hz1]) rfl (Gives.mk rfl ?_)
  exact ((bw1.setCell (Nat.le_refl _) _).setCell (Nat.le_refl _) _).setCell (Nat.le_refl _) _
set_option maxHeartbeats 2000000 in
theorem trim_work (k n : Int) (s : ByteArray) (a : Option Addr) (cap : Nat) (W : World) (h : RVO W (.slice a 1 cap) [(k, n, s)]) (hs : s.size ≤ 1048576) :
    Calls Tryz.prog 95 #[.slice a 1 cap] W fun e w' => Gives (fun V => V = Rd.tV 3 0 ⟨(Lib.trimB s.data.toList 32).toArray⟩ 0) W e w' := by
  obtain ⟨g, o, rfl, hg, c0, c1, c2⟩ := one_cells h
  have bw0 := below_alloc W (.cells #[.int .i64 0, .int .i64 0, .string ⟨#[]⟩] 29)
  have d2 := (bw0.cell (p := ⟨g, o + 2, none⟩) hg).trans c2
  have hcon := fun w => Tryz.strings_Trim_one s 32 (by decide) w (by omega)
  generalize Lib.trimB s.data.toList 32 = r at *
  clear h c0 c1 c2
  go_enter Tryz.func95, Tryz.ntmps95
  go_wp2_with (go_at_call 154; fail)
  refine (hcon _).mono ?_
  rintro e w1 ⟨rfl, hw⟩
  have hb1 : Below (W.alloc (.cells #[.int .i64 0, .int .i64 0, .string ⟨#[]⟩] 29)).heap.size (W.alloc (.cells #[.int .i64 0, .int .i64 0, .string ⟨#[]⟩] 29)) w1 := by
    rcases hw with rfl | rfl
    · exact Below.refl _ _
    · exact (Below.refl _ _).drew
  clear hw
  obtain ⟨hc1, hf1⟩ := bcell hb1
  have hz1 : W.heap.size < w1.heap.size := by have := hb1.size; simp at this; omega
  have bw1 : Below W.heap.size W w1 := bw0.trans (hb1.mono (by simp))
  go_wp2_with (go_at_call 46; fail)
  refine (Rd.textValue_any _ _).mono ?_
  rintro e w2 ⟨rfl, hb2⟩
  obtain ⟨hc2, hf2⟩ := bcell hb2
  have hz2 : W.heap.size < w2.heap.size := by have := hb2.size; omega
  have bw2 : Below W.heap.size W w2 := bw1.trans (hb2.mono bw1.size)
  go_wp2
  refine bodyPost_ret (v := Rd.tV 3 0 ⟨r.toArray⟩ 0) (by simp [results, Tryz.results95, go_sem, Rd.tV, hc1, hf1, hz1, hc2, hf2, hz2]) rfl (Gives.mk rfl ?_)
  exact ((bw2.setCell (Nat.le_refl _) _).setCell (Nat.le_refl _) _).setCell (Nat.le_refl _) _
set_option maxHeartbeats 2000000 in
theorem abs_pos (k n : Int) (s : ByteArray) (a : Option Addr) (cap : Nat) (W : World) (h : RVO W (.slice a 1 cap) [(k, n, s)]) (hn : 0 ≤ n) :
    Calls Tryz.prog 83 #[.slice a 1 cap] W fun e w' => Gives (fun V => V = Rd.tV k n s 0) W e w' := by
  obtain ⟨g, o, rfl, hg, c0, c1, c2⟩ := one_cells h
  have bw0 := below_alloc W (.cells #[.int .i64 0, .int .i64 0, .string ⟨#[]⟩] 29)
  have d0 := (bw0.cell (p := ⟨g, o, none⟩) hg).trans c0
  have d1 := (bw0.cell (p := ⟨g, o + 1, none⟩) hg).trans c1
  have d2 := (bw0.cell (p := ⟨g, o + 2, none⟩) hg).trans c2
  clear h c0 c1 c2
  go_enter Tryz.func83, Tryz.ntmps83
  go_wp2
  refine bodyPost_ret (v := Rd.tV k n s 0) (by simp [results, Tryz.results83, go_sem, Rd.tV]) rfl (Gives.mk rfl ?_)
  go_light
  repeat (first | with_reducible exact Below.refl _ _ | refine Below.setCell ?_ (by simp) _ | refine Below.alloc ?_ (by simp) _)
set_option maxHeartbeats 2000000 in
theorem abs_neg (k n : Int) (s : ByteArray) (a : Option Addr) (cap : Nat) (W : World) (h : RVO W (.slice a 1 cap) [(k, n, s)]) (hs : s.size ≤ 1048576) (wn : (Lit.int .i64 n).wf = true) (hT : Tabs W) (hn : ¬ 0 ≤ n) :
    Calls Tryz.prog 83 #[.slice a 1 cap] W fun e w' => Gives (fun V => V = unV (unR 17 k n (Ok.opk 17 k 0) (vok k n s))) W e w' := by
  obtain ⟨g, o, rfl, hg, c0, c1, c2⟩ := one_cells h
  have bw0 := below_alloc W (.cells #[.int .i64 0, .int .i64 0, .string ⟨#[]⟩] 29)
  have d0 := (bw0.cell (p := ⟨g, o, none⟩) hg).trans c0
  have d1 := (bw0.cell (p := ⟨g, o + 1, none⟩) hg).trans c1
  have d2 := (bw0.cell (p := ⟨g, o + 2, none⟩) hg).trans c2
  have hcon := fun w t => unary_impl 17 k n s w hs wn t
  generalize unR 17 k n (Ok.opk 17 k 0) (vok k n s) = r at *
  obtain ⟨r1, r2, r3⟩ := r
  clear h c0 c1 c2 wn
  have hn' : decide (0 ≤ n) = false := by simpa using hn
  go_enter Tryz.func83, Tryz.ntmps83
  go_wp2_with (go_at_call 148; fail)
  refine (hcon _ (tabs_below hT bw0)).mono ?_
  simp only [unV]
  rintro e w1 ⟨rfl, hb1⟩
  obtain ⟨hc1, hf1⟩ := bcell hb1
  have hz1 : W.heap.size < w1.heap.size := by have := hb1.size; simp at this; omega
  have bw1 : Below W.heap.size W w1 := bw0.trans (hb1.mono (by simp))
  go_wp2
  refine bodyPost_ret (v := Rd.tV r1 r2 ⟨#[]⟩ r3) (by simp [results, Tryz.results83, go_sem, Rd.tV, hc1, hf1, hz1]) rfl (Gives.mk rfl ?_)
  exact ((bw1.setCell (Nat.le_refl _) _).setCell (Nat.le_refl _) _).setCell (Nat.le_refl _) _
set_option maxHeartbeats 2000000 in
theorem least_a (k n : Int) (s : ByteArray) (k2 n2 : Int) (s2 : ByteArray) (a : Option Addr) (cap : Nat) (W : World) (h : RVO W (.slice a 2 cap) [(k, n, s), (k2, n2, s2)]) (hF : Fit k n k2 n2) (hc : ordV k n s k2 n2 s2 ≤ 0) :
    Calls Tryz.prog 97 #[.slice a 2 cap] W fun e w' => Gives (fun V => V = Rd.tV k n s 0) W e w' := by
  obtain ⟨g, o, rfl, hg, ⟨c0, c1, c2⟩, e0, e1, e2⟩ := two_cells h
  have bw0 := below_alloc W (.cells #[.int .i64 0, .int .i64 0, .string ⟨#[]⟩] 29)
  have d0 := (bw0.cell (p := ⟨g, o, none⟩) hg).trans c0
  have d1 := (bw0.cell (p := ⟨g, o + 1, none⟩) hg).trans c1
  have d2 := (bw0.cell (p := ⟨g, o + 2, none⟩) hg).trans c2
  have d3 := (bw0.cell (p := ⟨g, o + 3, none⟩) hg).trans e0
  have d4 := (bw0.cell (p := ⟨g, o + 3 + 1, none⟩) hg).trans e1
  have d5 := (bw0.cell (p := ⟨g, o + 3 + 2, none⟩) hg).trans e2
  have hcon := fun w => orderOf_any k n s k2 n2 s2 w hF
  generalize ordV k n s k2 n2 s2 = o_ at *
  have ho : o_ ≤ 0 := hc
  clear h c0 c1 c2 e0 e1 e2 hF hc
  go_enter Tryz.func97, Tryz.ntmps97
  go_wp2
  go_region_with (go_at_call 59; refine (hcon _).mono ?_; rintro e w1 ⟨rfl, hb1⟩; replace hb1 := undrew hb1; obtain ⟨hc1, hf1⟩ := bcell hb1; have hz1 : W.heap.size < w1.heap.size := (by have := hb1.size; simp at this; omega); have bw1 : Below W.heap.size W w1 := bw0.trans (hb1.mono (by simp)); have b1' := fun (b o : Nat) (hb : b < W.heap.size) => (hc1 b o (by simp; omega)); have d0 := (hb1.cell (p := ⟨g, o, none⟩) (by show g < _; simp; omega)).trans d0; have d1 := (hb1.cell (p := ⟨g, o + 1, none⟩) (by show g < _; simp; omega)).trans d1; have d2 := (hb1.cell (p := ⟨g, o + 2, none⟩) (by show g < _; simp; omega)).trans d2; have d3 := (hb1.cell (p := ⟨g, o + 3, none⟩) (by show g < _; simp; omega)).trans d3; have d4 := (hb1.cell (p := ⟨g, o + 3 + 1, none⟩) (by show g < _; simp; omega)).trans d4; have d5 := (hb1.cell (p := ⟨g, o + 3 + 2, none⟩) (by show g < _; simp; omega)).trans d5)
  all_goals
    go_wp2
    refine bodyPost_ret (v := Rd.tV k n s 0) (by simp [results, Tryz.results97, go_sem, Rd.tV, hc1, hf1, hz1]) rfl (Gives.mk rfl ?_)
    first | exact ((bw1.setCell (Nat.le_refl _) _).setCell (Nat.le_refl _) _).setCell (Nat.le_refl _) _ | exact ((bw1.drew.setCell (Nat.le_refl _) _).setCell (Nat.le_refl _) _).setCell (Nat.le_refl _) _
set_option maxHeartbeats 2000000 in
theorem least_b (k n : Int) (s : ByteArray) (k2 n2 : Int) (s2 : ByteArray) (a : Option Addr) (cap : Nat) (W : World) (h : RVO W (.slice a 2 cap) [(k, n, s), (k2, n2, s2)]) (hF : Fit k n k2 n2) (hc : ¬ ordV k n s k2 n2 s2 ≤ 0) :
    Calls Tryz.prog 97 #[.slice a 2 cap] W fun e w' => Gives (fun V => V = Rd.tV k2 n2 s2 0) W e w' := by
  obtain ⟨g, o, rfl, hg, ⟨c0, c1, c2⟩, e0, e1, e2⟩ := two_cells h
  have bw0 := below_alloc W (.cells #[.int .i64 0, .int .i64 0, .string ⟨#[]⟩] 29)
  have d0 := (bw0.cell (p := ⟨g, o, none⟩) hg).trans c0
  have d1 := (bw0.cell (p := ⟨g, o + 1, none⟩) hg).trans c1
  have d2 := (bw0.cell (p := ⟨g, o + 2, none⟩) hg).trans c2
  have d3 := (bw0.cell (p := ⟨g, o + 3, none⟩) hg).trans e0
  have d4 := (bw0.cell (p := ⟨g, o + 3 + 1, none⟩) hg).trans e1
  have d5 := (bw0.cell (p := ⟨g, o + 3 + 2, none⟩) hg).trans e2
  have hcon := fun w => orderOf_any k n s k2 n2 s2 w hF
  generalize ordV k n s k2 n2 s2 = o_ at *
  have ho : decide (o_ ≤ 0) = false := by simpa using hc
  clear h c0 c1 c2 e0 e1 e2 hF hc
  go_enter Tryz.func97, Tryz.ntmps97
  go_wp2
  go_region_with (go_at_call 59; refine (hcon _).mono ?_; rintro e w1 ⟨rfl, hb1⟩; replace hb1 := undrew hb1; obtain ⟨hc1, hf1⟩ := bcell hb1; have hz1 : W.heap.size < w1.heap.size := (by have := hb1.size; simp at this; omega); have bw1 : Below W.heap.size W w1 := bw0.trans (hb1.mono (by simp)); have b1' := fun (b o : Nat) (hb : b < W.heap.size) => (hc1 b o (by simp; omega)); have d0 := (hb1.cell (p := ⟨g, o, none⟩) (by show g < _; simp; omega)).trans d0; have d1 := (hb1.cell (p := ⟨g, o + 1, none⟩) (by show g < _; simp; omega)).trans d1; have d2 := (hb1.cell (p := ⟨g, o + 2, none⟩) (by show g < _; simp; omega)).trans d2; have d3 := (hb1.cell (p := ⟨g, o + 3, none⟩) (by show g < _; simp; omega)).trans d3; have d4 := (hb1.cell (p := ⟨g, o + 3 + 1, none⟩) (by show g < _; simp; omega)).trans d4; have d5 := (hb1.cell (p := ⟨g, o + 3 + 2, none⟩) (by show g < _; simp; omega)).trans d5)
  all_goals
    go_wp2
    refine bodyPost_ret (v := Rd.tV k2 n2 s2 0) (by simp [results, Tryz.results97, go_sem, Rd.tV, hc1, hf1, hz1]) rfl (Gives.mk rfl ?_)
    first | exact ((bw1.setCell (Nat.le_refl _) _).setCell (Nat.le_refl _) _).setCell (Nat.le_refl _) _ | exact ((bw1.drew.setCell (Nat.le_refl _) _).setCell (Nat.le_refl _) _).setCell (Nat.le_refl _) _
set_option maxHeartbeats 2000000 in
theorem greatest_a (k n : Int) (s : ByteArray) (k2 n2 : Int) (s2 : ByteArray) (a : Option Addr) (cap : Nat) (W : World) (h : RVO W (.slice a 2 cap) [(k, n, s), (k2, n2, s2)]) (hF : Fit k n k2 n2) (hc : 0 ≤ ordV k n s k2 n2 s2) :
    Calls Tryz.prog 98 #[.slice a 2 cap] W fun e w' => Gives (fun V => V = Rd.tV k n s 0) W e w' := by
  obtain ⟨g, o, rfl, hg, ⟨c0, c1, c2⟩, e0, e1, e2⟩ := two_cells h
  have bw0 := below_alloc W (.cells #[.int .i64 0, .int .i64 0, .string ⟨#[]⟩] 29)
  have d0 := (bw0.cell (p := ⟨g, o, none⟩) hg).trans c0
  have d1 := (bw0.cell (p := ⟨g, o + 1, none⟩) hg).trans c1
  have d2 := (bw0.cell (p := ⟨g, o + 2, none⟩) hg).trans c2
  have d3 := (bw0.cell (p := ⟨g, o + 3, none⟩) hg).trans e0
  have d4 := (bw0.cell (p := ⟨g, o + 3 + 1, none⟩) hg).trans e1
  have d5 := (bw0.cell (p := ⟨g, o + 3 + 2, none⟩) hg).trans e2
  have hcon := fun w => orderOf_any k n s k2 n2 s2 w hF
  generalize ordV k n s k2 n2 s2 = o_ at *
  have ho : 0 ≤ o_ := hc
  clear h c0 c1 c2 e0 e1 e2 hF hc
  go_enter Tryz.func98, Tryz.ntmps98
  go_wp2
  go_region_with (go_at_call 59; refine (hcon _).mono ?_; rintro e w1 ⟨rfl, hb1⟩; replace hb1 := undrew hb1; obtain ⟨hc1, hf1⟩ := bcell hb1; have hz1 : W.heap.size < w1.heap.size := (by have := hb1.size; simp at this; omega); have bw1 : Below W.heap.size W w1 := bw0.trans (hb1.mono (by simp)); have b1' := fun (b o : Nat) (hb : b < W.heap.size) => (hc1 b o (by simp; omega)); have d0 := (hb1.cell (p := ⟨g, o, none⟩) (by show g < _; simp; omega)).trans d0; have d1 := (hb1.cell (p := ⟨g, o + 1, none⟩) (by show g < _; simp; omega)).trans d1; have d2 := (hb1.cell (p := ⟨g, o + 2, none⟩) (by show g < _; simp; omega)).trans d2; have d3 := (hb1.cell (p := ⟨g, o + 3, none⟩) (by show g < _; simp; omega)).trans d3; have d4 := (hb1.cell (p := ⟨g, o + 3 + 1, none⟩) (by show g < _; simp; omega)).trans d4; have d5 := (hb1.cell (p := ⟨g, o + 3 + 2, none⟩) (by show g < _; simp; omega)).trans d5)
  all_goals
    go_wp2
    refine bodyPost_ret (v := Rd.tV k n s 0) (by simp [results, Tryz.results98, go_sem, Rd.tV, hc1, hf1, hz1]) rfl (Gives.mk rfl ?_)
    first | exact ((bw1.setCell (Nat.le_refl _) _).setCell (Nat.le_refl _) _).setCell (Nat.le_refl _) _ | exact ((bw1.drew.setCell (Nat.le_refl _) _).setCell (Nat.le_refl _) _).setCell (Nat.le_refl _) _
set_option maxHeartbeats 2000000 in
theorem greatest_b (k n : Int) (s : ByteArray) (k2 n2 : Int) (s2 : ByteArray) (a : Option Addr) (cap : Nat) (W : World) (h : RVO W (.slice a 2 cap) [(k, n, s), (k2, n2, s2)]) (hF : Fit k n k2 n2) (hc : ¬ 0 ≤ ordV k n s k2 n2 s2) :
    Calls Tryz.prog 98 #[.slice a 2 cap] W fun e w' => Gives (fun V => V = Rd.tV k2 n2 s2 0) W e w' := by
  obtain ⟨g, o, rfl, hg, ⟨c0, c1, c2⟩, e0, e1, e2⟩ := two_cells h
  have bw0 := below_alloc W (.cells #[.int .i64 0, .int .i64 0, .string ⟨#[]⟩] 29)
  have d0 := (bw0.cell (p := ⟨g, o, none⟩) hg).trans c0
  have d1 := (bw0.cell (p := ⟨g, o + 1, none⟩) hg).trans c1
  have d2 := (bw0.cell (p := ⟨g, o + 2, none⟩) hg).trans c2
  have d3 := (bw0.cell (p := ⟨g, o + 3, none⟩) hg).trans e0
  have d4 := (bw0.cell (p := ⟨g, o + 3 + 1, none⟩) hg).trans e1
  have d5 := (bw0.cell (p := ⟨g, o + 3 + 2, none⟩) hg).trans e2
  have hcon := fun w => orderOf_any k n s k2 n2 s2 w hF
  generalize ordV k n s k2 n2 s2 = o_ at *
  have ho : decide (0 ≤ o_) = false := by simpa using hc
  clear h c0 c1 c2 e0 e1 e2 hF hc
  go_enter Tryz.func98, Tryz.ntmps98
  go_wp2
  go_region_with (go_at_call 59; refine (hcon _).mono ?_; rintro e w1 ⟨rfl, hb1⟩; replace hb1 := undrew hb1; obtain ⟨hc1, hf1⟩ := bcell hb1; have hz1 : W.heap.size < w1.heap.size := (by have := hb1.size; simp at this; omega); have bw1 : Below W.heap.size W w1 := bw0.trans (hb1.mono (by simp)); have b1' := fun (b o : Nat) (hb : b < W.heap.size) => (hc1 b o (by simp; omega)); have d0 := (hb1.cell (p := ⟨g, o, none⟩) (by show g < _; simp; omega)).trans d0; have d1 := (hb1.cell (p := ⟨g, o + 1, none⟩) (by show g < _; simp; omega)).trans d1; have d2 := (hb1.cell (p := ⟨g, o + 2, none⟩) (by show g < _; simp; omega)).trans d2; have d3 := (hb1.cell (p := ⟨g, o + 3, none⟩) (by show g < _; simp; omega)).trans d3; have d4 := (hb1.cell (p := ⟨g, o + 3 + 1, none⟩) (by show g < _; simp; omega)).trans d4; have d5 := (hb1.cell (p := ⟨g, o + 3 + 2, none⟩) (by show g < _; simp; omega)).trans d5)
  all_goals
    go_wp2
    refine bodyPost_ret (v := Rd.tV k2 n2 s2 0) (by simp [results, Tryz.results98, go_sem, Rd.tV, hc1, hf1, hz1]) rfl (Gives.mk rfl ?_)
    first | exact ((bw1.setCell (Nat.le_refl _) _).setCell (Nat.le_refl _) _).setCell (Nat.le_refl _) _ | exact ((bw1.drew.setCell (Nat.le_refl _) _).setCell (Nat.le_refl _) _).setCell (Nat.le_refl _) _
end Go.Proofs.YtdcdoeolaongkaaGreatDoor.Ca
namespace Go.Proofs.YtdcdoeolaongkaaGreatDoor
open Go.ChangeShapes Go.WideShapes Go.ChangeAt Go.RowKit Go.Shelf
set_option linter.unusedVariables false
set_option linter.unusedSimpArgs false
set_option maxRecDepth 100000
set_option maxHeartbeats 4000000 in
theorem unary_spec (op k n : Int) (s : ByteArray) (w : World) (hs : s.size ≤ 1048576) (wn : (Lit.int .i64 n).wf = true) :
    Calls Tryz.prog 75 #[.int .i64 op, .agg #[.int .i64 k, .int .i64 n, .string s]] w fun e w' => e = .returned (unV (unR op k n (Ok.opk op k 0) (vok k n s))) ∧ Below w.heap.size w w' := by
  have bw0 : Below w.heap.size w ((w.alloc (.cells #[.int .i64 k, .int .i64 n, .string s] 29)).alloc (.cells #[.int .i64 0, .int .i64 0, .string ⟨#[]⟩] 29)) := (below_alloc w _).alloc (by simp) _
  by_cases hin : op < 16 ∨ 18 < op
  · have HR : Hid (unR op k n (Ok.opk op k 0) (vok k n s) = (0, 0, 1)) := (by unfold unR; rw [if_pos (by rcases hin with h | h; exact .inl h; exact .inr (.inl h))] : unR op k n (Ok.opk op k 0) (vok k n s) = (0, 0, 1))
    rw [HR.out]
    rcases hin with h | h
    · have d1 : decide (16 ≤ op) = false := by simpa using h
      go_enter Tryz.func75, Tryz.ntmps75
      go_wp2_with fail
      refine bodyPost_ret (v := unV (0, 0, 1)) (by simp [results, Tryz.results75, go_sem, unV]) rfl ⟨rfl, bw0⟩
    · have d1 : decide (16 ≤ op) = true := by simp; omega
      have d2 : decide (op ≤ 18) = false := by simpa using h
      have h' : ¬ op < 16 := by omega
      go_enter Tryz.func75, Tryz.ntmps75
      go_wp2_with fail
      refine bodyPost_ret (v := unV (0, 0, 1)) (by simp [results, Tryz.results75, go_sem, unV]) rfl ⟨rfl, bw0⟩
  have g1 : ¬ op < 16 := by omega
  have g2 : ¬ 18 < op := by omega
  have d1 : decide (16 ≤ op) = true := by simp; omega
  have d2 : decide (op ≤ 18) = true := by simp; omega
  clear hin
  cases hv : vok k n s with
  | false =>
    have HV : Hid (vok k n s = false) := hv
    have HR : Hid (unR op k n (Ok.opk op k 0) false = (0, 0, 1)) := (by simp [unR] : unR op k n (Ok.opk op k 0) false = (0, 0, 1))
    clear hv
    rw [HR.out]
    go_enter Tryz.func75, Tryz.ntmps75
    go_wp2_with fail
    refine (vok_spec k n s _ hs).mono ?_
    rw [HV.out]
    rintro e w1 ⟨rfl, hb⟩
    obtain ⟨hc, hf⟩ := bcell hb
    have hz : w.heap.size + 1 < w1.heap.size := by have := hb.size; simp at this; omega
    have hy : w.heap.size < w1.heap.size := by omega
    have bw1 : Below w.heap.size w w1 := bw0.trans (hb.mono (by simp; omega))
    go_wp2
    refine bodyPost_ret (v := unV (0, 0, 1)) (by simp [results, Tryz.results75, go_sem, unV, hc, hf, hz]) rfl ⟨rfl, ?_⟩
    exact ((bw1.setCell (by simp) _).setCell (by simp) _).setCell (by simp) _
  | true =>
    have HV : Hid (vok k n s = true) := hv
    clear hv
    by_cases hk : Ok.opk op k 0 = -1
    · have HR : Hid (unR op k n (Ok.opk op k 0) true = (0, 0, 10)) := (by unfold unR; rw [if_neg (by simp; omega), if_pos hk] : unR op k n (Ok.opk op k 0) true = (0, 0, 10))
      have kb : (Ok.opk op k 0 == -1) = true := by rw [hk]; rfl
      have kl : Ok.opk op k 0 < 0 := by omega
      clear hk
      rw [HR.out]
      go_enter Tryz.func75, Tryz.ntmps75
      go_wp2_with fail
      refine (vok_spec k n s _ hs).mono ?_
      rw [HV.out]
      rintro e w1 ⟨rfl, hb⟩
      obtain ⟨hc, hf⟩ := bcell hb
      have hz : w.heap.size + 1 < w1.heap.size := by have := hb.size; simp at this; omega
      have hy : w.heap.size < w1.heap.size := by omega
      have bw1 : Below w.heap.size w w1 := bw0.trans (hb.mono (by simp; omega))
      go_wp2_with fail
      refine (Ok.opKind_spec _ _ _ _).mono ?_
      rintro e w2 ⟨rfl, rfl⟩
      have bw2 := bw1
      have hz2 := hz
      go_wp2
      refine bodyPost_ret (v := unV (0, 0, 10)) (by simp [results, Tryz.results75, go_sem, unV, hc, hf, hz]) rfl ⟨rfl, ?_⟩
      exact ((bw2.setCell (by simp) _).setCell (by simp) _).setCell (by simp) _
    have kb : (Ok.opk op k 0 == -1) = false := by simpa using hk
    have kl : ¬ Ok.opk op k 0 < 0 := by have := opk_un (op := op) (k := k) (by omega) (by omega); omega
    have HU : Hid (unR op k n (Ok.opk op k 0) true = if op = 18 then (4, zB (k == 0), 0) else if k = 0 then (0, 0, 0) else if op = 16 then (4, zB (n == 0), 0) else if n = -9223372036854775808 then (0, 0, 13) else (k, -n, 0)) := (by unfold unR; rw [if_neg (by simp; omega), if_neg hk] : unR op k n (Ok.opk op k 0) true = _)
    clear hk
    by_cases c1 : op = 18
    · have HR : Hid (unR op k n (Ok.opk op k 0) true = (4, zB (k == 0), 0)) := (by rw [HU.out]; simp [*] : unR op k n (Ok.opk op k 0) true = (4, zB (k == 0), 0))
      clear HU
      rw [HR.out]
      have e1 : (op == 18) = true := by simpa using c1
      clear c1
      go_enter Tryz.func75, Tryz.ntmps75
      go_wp2_with fail
      refine (vok_spec k n s _ hs).mono ?_
      rw [HV.out]
      rintro e w1 ⟨rfl, hb⟩
      obtain ⟨hc, hf⟩ := bcell hb
      have hz : w.heap.size + 1 < w1.heap.size := by have := hb.size; simp at this; omega
      have hy : w.heap.size < w1.heap.size := by omega
      have bw1 : Below w.heap.size w w1 := bw0.trans (hb.mono (by simp; omega))
      go_wp2_with fail
      refine (Ok.opKind_spec _ _ _ _).mono ?_
      rintro e w2 ⟨rfl, rfl⟩
      have bw2 := bw1
      have hz2 := hz
      go_wp2_with fail
      refine (truth_any _ _).mono ?_
      rintro e w3 ⟨rfl, hb3⟩
      obtain ⟨hc3, hf3⟩ := bcell hb3
      have hz3 : w.heap.size + 1 < w3.heap.size := by have := hb3.size; omega
      have hy3 : w.heap.size < w3.heap.size := by omega
      have bw3 : Below w.heap.size w w3 := bw2.trans (hb3.mono (by have := bw2.size; omega))
      go_wp2
      refine bodyPost_ret (v := unV (4, zB (k == 0), 0)) (by simp [results, Tryz.results75, go_sem, unV, hc, hf, hz, hc3, hf3, hz3]) rfl ⟨rfl, ?_⟩
      exact ((bw3.setCell (by simp) _).setCell (by simp) _).setCell (by simp) _
    have e1 : (op == 18) = false := by simpa using c1
    by_cases c2 : k = 0
    · have HR : Hid (unR op k n (Ok.opk op k 0) true = (0, 0, 0)) := (by rw [HU.out]; simp [*] : unR op k n (Ok.opk op k 0) true = (0, 0, 0))
      clear HU
      rw [HR.out]
      have e2 : (k == 0) = true := by simpa using c2
      clear c2
      go_enter Tryz.func75, Tryz.ntmps75
      go_wp2_with fail
      refine (vok_spec k n s _ hs).mono ?_
      rw [HV.out]
      rintro e w1 ⟨rfl, hb⟩
      obtain ⟨hc, hf⟩ := bcell hb
      have hz : w.heap.size + 1 < w1.heap.size := by have := hb.size; simp at this; omega
      have hy : w.heap.size < w1.heap.size := by omega
      have bw1 : Below w.heap.size w w1 := bw0.trans (hb.mono (by simp; omega))
      go_wp2_with fail
      refine (Ok.opKind_spec _ _ _ _).mono ?_
      rintro e w2 ⟨rfl, rfl⟩
      have bw2 := bw1
      have hz2 := hz
      go_wp2
      refine bodyPost_ret (v := unV (0, 0, 0)) (by simp [results, Tryz.results75, go_sem, unV, hc, hf, hz]) rfl ⟨rfl, ?_⟩
      exact ((bw2.setCell (by simp) _).setCell (by simp) _).setCell (by simp) _
    have e2 : (k == 0) = false := by simpa using c2
    by_cases c3 : op = 16
    · have HR : Hid (unR op k n (Ok.opk op k 0) true = (4, zB (n == 0), 0)) := (by rw [HU.out]; simp [*] : unR op k n (Ok.opk op k 0) true = (4, zB (n == 0), 0))
      clear HU
      rw [HR.out]
      have e3 : (op == 16) = true := by simpa using c3
      clear c3
      go_enter Tryz.func75, Tryz.ntmps75
      go_wp2_with fail
      refine (vok_spec k n s _ hs).mono ?_
      rw [HV.out]
      rintro e w1 ⟨rfl, hb⟩
      obtain ⟨hc, hf⟩ := bcell hb
      have hz : w.heap.size + 1 < w1.heap.size := by have := hb.size; simp at this; omega
      have hy : w.heap.size < w1.heap.size := by omega
      have bw1 : Below w.heap.size w w1 := bw0.trans (hb.mono (by simp; omega))
      go_wp2_with fail
      refine (Ok.opKind_spec _ _ _ _).mono ?_
      rintro e w2 ⟨rfl, rfl⟩
      have bw2 := bw1
      have hz2 := hz
      go_wp2_with fail
      refine (truth_any _ _).mono ?_
      rintro e w3 ⟨rfl, hb3⟩
      obtain ⟨hc3, hf3⟩ := bcell hb3
      have hz3 : w.heap.size + 1 < w3.heap.size := by have := hb3.size; omega
      have hy3 : w.heap.size < w3.heap.size := by omega
      have bw3 : Below w.heap.size w w3 := bw2.trans (hb3.mono (by have := bw2.size; omega))
      go_wp2
      refine bodyPost_ret (v := unV (4, zB (n == 0), 0)) (by simp [results, Tryz.results75, go_sem, unV, hc, hf, hz, hc3, hf3, hz3]) rfl ⟨rfl, ?_⟩
      exact ((bw3.setCell (by simp) _).setCell (by simp) _).setCell (by simp) _
    have e3 : (op == 16) = false := by simpa using c3
    have bn := wf_in wn
    by_cases c4 : n = -9223372036854775808
    · have HR : Hid (unR op k n (Ok.opk op k 0) true = (0, 0, 13)) := (by rw [HU.out]; simp [*] : unR op k n (Ok.opk op k 0) true = (0, 0, 13))
      have e4 : (n == -9223372036854775808) = true := by simpa using c4
      have HW : Hid (wrap64 (-n) = if n = -9223372036854775808 then n else -n) := (by unfold wrap64; unfold inI at bn; split <;> omega : wrap64 (-n) = if n = -9223372036854775808 then n else -n)
      have HX : Hid (n = -9223372036854775808 ∨ wrap64 (-n) = -n) := (by have := HW.out; by_cases h : n = -9223372036854775808; exact .inl h; exact .inr (by rw [this, if_neg h]))
      have HN : Hid (True) := (by exact trivial)
      clear HU c4 HW HX
      rw [HR.out]
      go_enter Tryz.func75, Tryz.ntmps75
      go_wp2_with fail
      refine (vok_spec k n s _ hs).mono ?_
      rw [HV.out]
      rintro e w1 ⟨rfl, hb⟩
      obtain ⟨hc, hf⟩ := bcell hb
      have hz : w.heap.size + 1 < w1.heap.size := by have := hb.size; simp at this; omega
      have hy : w.heap.size < w1.heap.size := by omega
      have bw1 : Below w.heap.size w w1 := bw0.trans (hb.mono (by simp; omega))
      go_wp2_with fail
      refine (Ok.opKind_spec _ _ _ _).mono ?_
      rintro e w2 ⟨rfl, rfl⟩
      have bw2 := bw1
      have hz2 := hz
      go_wp2
      refine bodyPost_ret (v := unV (0, 0, 13)) (by simp [results, Tryz.results75, go_sem, unV, hc, hf, hz, HN.out]) rfl ⟨rfl, ?_⟩
      exact ((bw2.setCell (by simp) _).setCell (by simp) _).setCell (by simp) _
    · have HR : Hid (unR op k n (Ok.opk op k 0) true = (k, -n, 0)) := (by rw [HU.out]; simp [*] : unR op k n (Ok.opk op k 0) true = (k, -n, 0))
      have e4 : (n == -9223372036854775808) = false := by simpa using c4
      have HW : Hid (wrap64 (-n) = if n = -9223372036854775808 then n else -n) := (by unfold wrap64; unfold inI at bn; split <;> omega : wrap64 (-n) = if n = -9223372036854775808 then n else -n)
      have HX : Hid (n = -9223372036854775808 ∨ wrap64 (-n) = -n) := (by have := HW.out; by_cases h : n = -9223372036854775808; exact .inl h; exact .inr (by rw [this, if_neg h]))
      have HN : Hid (wrap64 (-n) = -n) := (by exact HX.out.resolve_left c4)
      clear HU c4 HW HX
      rw [HR.out]
      go_enter Tryz.func75, Tryz.ntmps75
      go_wp2_with fail
      refine (vok_spec k n s _ hs).mono ?_
      rw [HV.out]
      rintro e w1 ⟨rfl, hb⟩
      obtain ⟨hc, hf⟩ := bcell hb
      have hz : w.heap.size + 1 < w1.heap.size := by have := hb.size; simp at this; omega
      have hy : w.heap.size < w1.heap.size := by omega
      have bw1 : Below w.heap.size w w1 := bw0.trans (hb.mono (by simp; omega))
      go_wp2_with fail
      refine (Ok.opKind_spec _ _ _ _).mono ?_
      rintro e w2 ⟨rfl, rfl⟩
      have bw2 := bw1
      have hz2 := hz
      go_wp2
      refine bodyPost_ret (v := unV (k, -n, 0)) (by simp [results, Tryz.results75, go_sem, unV, hc, hf, hz, HN.out]) rfl ⟨rfl, ?_⟩
      exact ((bw2.setCell (by simp) _).setCell (by simp) _).setCell (by simp) _
end Go.Proofs.YtdcdoeolaongkaaGreatDoor
namespace Go.Proofs.YtdcdoeolaongkaaGreatDoor
open Go.ChangeShapes Go.WideShapes Go.ChangeAt Go.RowKit Go.Shelf
set_option linter.unusedVariables false
set_option linter.unusedSimpArgs false
set_option maxRecDepth 100000
theorem hide {p : Prop} (h : p) : Hid p := h
theorem bit_any (b : Bool) (w : World) : Calls Tryz.prog 131 #[.bool b] w fun e w' => e = .returned (.int .i64 (zB b)) ∧ w' = w := by
  cases b
  all_goals
    go_enter Tryz.func131, Tryz.ntmps131
    go_wp2
    go_ret
    exact ⟨rfl, rfl⟩
theorem numbers_any (a b : Int) (w : World) : Calls Tryz.prog 144 #[.int .i64 a, .int .i64 b] w fun e w' => e = .returned (.bool ((a == 1 && b == 2) || (a == 2 && b == 1))) ∧ w' = w := by
  go_enter Tryz.func144, Tryz.ntmps144
  go_wp2
  all_goals
    go_ret
    refine ⟨ret_bool ?_, rfl⟩
    go_light
    grind
theorem cmpL_len : ∀ (xs ys : List Int), xs = [] ∨ ys = [] → cmpL xs ys = sgn xs.length ys.length
  | [], [], _ => rfl
  | [], y :: ys, _ => by simp only [cmpL, sgn, List.length_nil, List.length_cons]; rw [if_pos (by omega)]
  | x :: xs, [], _ => by simp only [cmpL, sgn, List.length_nil, List.length_cons]; rw [if_neg (by omega), if_pos (by omega)]
  | x :: xs, y :: ys, h => by simp at h
theorem cmpL_same (a : Int) (xs ys : List Int) : cmpL (a :: xs) (a :: ys) = cmpL xs ys := by simp [cmpL]
theorem cmpL_diff (a b : Int) (xs ys : List Int) (h : a ≠ b) : cmpL (a :: xs) (b :: ys) = sgn a b := by
  unfold cmpL sgn; split; rfl; split; rfl; omega
theorem owns_cells {w : World} {base e n : Nat} {v : Value} {xs : List Int} (h : w.ownsRow base e 1 v n (xs.map (Value.int .i64))) : ∃ a cap, v = .slice a n cap ∧ ∀ j : Nat, j < xs.length → ∃ g, a = some ⟨g, 0, none⟩ ∧ base ≤ g ∧ g < w.heap.size ∧ w.cell? ⟨g, j, none⟩ = some (.int .i64 (xs.getD j 0)) := by
  have hl := h.1
  have h2 := h.2
  rcases h2 with ⟨rfl, rfl⟩ | ⟨g, cap, cur, rfl, hb, hg, _, _, _, ht⟩
  · refine ⟨none, 0, rfl, fun j hj => ?_⟩
    simp at hl; subst hl; simp at hj
  · refine ⟨some ⟨g, 0, none⟩, cap, rfl, fun j hj => ⟨g, rfl, hb, ?_, ?_⟩⟩
    · exact (h.lt g rfl).2
    · have := h.cells (g := g) rfl j (.int .i64 (xs.getD j 0)) (by simp [List.getD, hj])
      simp only [Addr.add] at this
      by_cases e : j = 0
      · subst e; simpa using this
      · simpa [e] using this
theorem CharsPost.get {s : ByteArray} {w w' : World} {e : Ending} {cs : List Int} (h : CharsPost s w e w') (hx : chars s = some cs) : ∃ v, e = .returned (.tuple #[v, .bool true]) ∧ w'.ownsRow w.heap.size 3 1 v cs.length (cs.map (Value.int .i64)) ∧ Below w.heap.size w w' := by
  rcases h with ⟨ds, v, hch, rfl, hown, hb⟩ | ⟨a, hch, _, _⟩
  · rw [hx] at hch; cases hch; exact ⟨v, rfl, hown, hb⟩
  · rw [hx] at hch; cases hch
set_option maxHeartbeats 4000000 in
theorem compare_spec_text (n1 : Int) (s1 : ByteArray) (n2 : Int) (s2 : ByteArray) (xs ys : List Int) (w : World) (hs1 : s1.size ≤ 1048576) (hs2 : s2.size ≤ 1048576) (hv1 : vok 3 n1 s1 = true) (hv2 : vok 3 n2 s2 = true) (hx : chars s1 = some xs) (hy : chars s2 = some ys) :
    Calls Tryz.prog 78 #[.agg #[.int .i64 3, .int .i64 n1, .string s1], .agg #[.int .i64 3, .int .i64 n2, .string s2]] w fun e w' => e = .returned (.tuple #[.int .i64 (cmpL xs ys), .int .i64 0]) ∧ Below w.heap.size w w' := by
  have bw0 : Below w.heap.size w ((w.alloc (.cells #[.int .i64 3, .int .i64 n1, .string s1] 29)).alloc (.cells #[.int .i64 3, .int .i64 n2, .string s2] 29)) := (below_alloc w _).alloc (by simp) _
  have HV1 : Hid (vok 3 n1 s1 = true) := hv1
  have HV2 : Hid (vok 3 n2 s2 = true) := hv2
  have HX : Hid (chars s1 = some xs) := hx
  have HY : Hid (chars s2 = some ys) := hy
  have lx := (count_eq s1 xs hx).2.2
  have ly := (count_eq s2 ys hy).2.2
  clear hv1 hv2 hx hy
  go_enter Tryz.func78, Tryz.ntmps78
  go_wp2_with fail
  refine (vok_spec 3 n1 s1 _ hs1).mono ?_
  rw [HV1.out]
  rintro e w1 ⟨rfl, hb⟩
  obtain ⟨hc, hf⟩ := bcell hb
  have bw1 : Below w.heap.size w w1 := bw0.trans (hb.mono (by simp; omega))
  have hz1 : w.heap.size + 1 < w1.heap.size := by have := hb.size; simp at this; omega
  have hy1 : w.heap.size < w1.heap.size := by omega
  go_wp2_with fail
  refine (vok_spec 3 n2 s2 _ hs2).mono ?_
  rw [HV2.out]
  rintro e w2 ⟨rfl, hb2⟩
  obtain ⟨hc2, hf2⟩ := bcell hb2
  have bw2 : Below w.heap.size w w2 := bw1.trans (hb2.mono bw1.size)
  have hz2 : w.heap.size + 1 < w2.heap.size := by have := hb2.size; omega
  have hy2 : w.heap.size < w2.heap.size := by omega
  go_wp2_with fail
  refine (chars_any s1 _ hs1).mono ?_
  intro e w3 hcp
  obtain ⟨v1, rfl, hown1, hb3⟩ := CharsPost.get hcp HX.out
  clear hcp
  obtain ⟨hc3, hf3⟩ := bcell hb3
  have bw3 : Below w.heap.size w w3 := bw2.trans (hb3.mono bw2.size)
  have hz3 : w.heap.size + 1 < w3.heap.size := by have := hb3.size; omega
  have hy3 : w.heap.size < w3.heap.size := by omega
  go_wp2_with fail
  refine (chars_any s2 _ hs2).mono ?_
  intro e w4 hcp
  obtain ⟨v2, rfl, hown2, hb4⟩ := CharsPost.get hcp HY.out
  clear hcp
  have bw4 : Below w.heap.size w w4 := bw3.trans (hb4.mono bw3.size)
  obtain ⟨a1, c1, rfl, hcell1⟩ := owns_cells hown1
  obtain ⟨a2, c2, rfl, hcell2⟩ := owns_cells hown2
  have hk1 : ∀ j : Nat, j < xs.length → ∃ g, a1 = some ⟨g, 0, none⟩ ∧ w4.cell? ⟨g, j, none⟩ = some (.int .i64 (xs.getD j 0)) := fun j hj => by
    obtain ⟨g, e1, _, e3, e4⟩ := hcell1 j hj
    exact ⟨g, e1, (hb4.cell (p := ⟨g, j, none⟩) e3).trans e4⟩
  have hk2 : ∀ j : Nat, j < ys.length → ∃ g, a2 = some ⟨g, 0, none⟩ ∧ w4.cell? ⟨g, j, none⟩ = some (.int .i64 (ys.getD j 0)) := fun j hj => by
    obtain ⟨g, e1, _, e3, e4⟩ := hcell2 j hj
    exact ⟨g, e1, e4⟩
  have HK1 := hide hk1
  have HK2 := hide hk2
  clear hk1 hk2 hcell1 hcell2 hown1 hown2 hb hb2 hb3 hb4 hc hf hc2 hf2 hc3 hf3 bw1 bw2 bw3
  go_wp2
  go_loopw [10] (fun i wr => ∃ (j nq : Nat), i = .int .i64 j ∧ j ≤ xs.length ∧ j ≤ ys.length ∧ wr = w4.drewN nq ∧ cmpL xs ys = cmpL (xs.drop j) (ys.drop j)) (fun i _ => xs.length - (intOf i).toNat)
  case atStart => exact ⟨0, 0, rfl, by omega, by omega, rfl, by simp⟩
  case round =>
    obtain ⟨j, nq, rfl, hj1, hj2, rfl, hcm⟩ := hrel
    have HC : Hid (cmpL xs ys = cmpL (xs.drop j) (ys.drop j)) := hcm
    clear hcm
    by_cases h1 : j < xs.length
    · by_cases h2 : j < ys.length
      · obtain ⟨g1, rfl, hcl1⟩ := HK1.out j h1
        obtain ⟨g2, rfl, hcl2⟩ := HK2.out j h2
        have h1' : (j : Int) < xs.length := by omega
        have h2' : (j : Int) < ys.length := by omega
        have XD : Hid (xs.drop j = xs.getD j 0 :: xs.drop (j + 1)) := (by rw [List.drop_eq_getElem_cons h1]; simp [List.getD, h1] : xs.drop j = xs.getD j 0 :: xs.drop (j + 1))
        have YD : Hid (ys.drop j = ys.getD j 0 :: ys.drop (j + 1)) := (by rw [List.drop_eq_getElem_cons h2]; simp [List.getD, h2] : ys.drop j = ys.getD j 0 :: ys.drop (j + 1))
        generalize xs.getD j 0 = x at *
        generalize ys.getD j 0 = y at *
        by_cases hxy : x = y
        · have HS : Hid (cmpL xs ys = cmpL (xs.drop (j + 1)) (ys.drop (j + 1))) := (by rw [HC.out, XD.out, YD.out, hxy, cmpL_same] : cmpL xs ys = cmpL (xs.drop (j + 1)) (ys.drop (j + 1)))
          have hb : (x != y) = false := by simpa using hxy
          clear hxy XD YD HC
          go_wp2
          go_quiet (fail)
          go_wp2
          go_roundw
          case rel => exact ⟨j + 1, _, by go_num, by omega, by omega, rfl, HS.out⟩
          case measure => simp [intOf]; omega
        · have HS : Hid (cmpL xs ys = sgn x y) := (by rw [HC.out, XD.out, YD.out, cmpL_diff _ _ _ _ hxy] : cmpL xs ys = sgn x y)
          have hb : (x != y) = true := by simpa using hxy
          clear hxy XD YD HC
          go_wp2
          go_quiet (fail)
          go_wp2
          go_quiet ((go_at_call 143; refine (sign_any _ _ _).mono ?_; rintro e w' ⟨rfl, rfl⟩; exact ⟨rfl, _, rfl⟩))
          go_wp2
          go_ret2
          exact ⟨ret_two HS.out.symm rfl, below_drewN (below_drewN (below_drewN bw4 _) _) _⟩
      · have HS : Hid (cmpL xs ys = sgn xs.length ys.length) := (by
          have e : ys.drop j = [] := List.drop_eq_nil_of_le (by omega)
          rw [HC.out, e, cmpL_len _ _ (.inr rfl)]
          simp only [List.length_drop, List.length_nil, sgn]
          split <;> split <;> (try split) <;> (try split) <;> omega : cmpL xs ys = sgn xs.length ys.length)
        have h1' : (j : Int) < xs.length := by omega
        have h2' : ¬ (j : Int) < ys.length := by omega
        go_wp2_with (go_at_call 143; refine (sign_any _ _ _).mono ?_; rintro e w' ⟨rfl, rfl⟩)
        go_ret2
        exact ⟨ret_two HS.out.symm rfl, below_drewN bw4 _⟩
    · have HS : Hid (cmpL xs ys = sgn xs.length ys.length) := (by
        have e : xs.drop j = [] := List.drop_eq_nil_of_le (by omega)
        rw [HC.out, e, cmpL_len _ _ (.inl rfl)]
        simp only [List.length_drop, List.length_nil, sgn]
        split <;> split <;> (try split) <;> (try split) <;> omega : cmpL xs ys = sgn xs.length ys.length)
      have h1' : ¬ (j : Int) < xs.length := by omega
      go_wp2_with (go_at_call 143; refine (sign_any _ _ _).mono ?_; rintro e w' ⟨rfl, rfl⟩)
      go_ret2
      exact ⟨ret_two HS.out.symm rfl, below_drewN bw4 _⟩
theorem vok_text {n : Int} {s : ByteArray} (h : vok 3 n s = true) : ∃ xs, chars s = some xs := by
  cases e : chars s with
  | some xs => exact ⟨xs, rfl⟩
  | none => simp [vok, textOK_none e] at h
theorem ordV_null (k1 n1 : Int) (s1 : ByteArray) (k2 n2 : Int) (s2 : ByteArray) (h : k1 = 0 ∨ k2 = 0) (z1 : k1 = 0 → n1 = 0) (z2 : k2 = 0 → n2 = 0) : ordV k1 n1 s1 k2 n2 s2 = sgn (zB (k1 != 0)) (zB (k2 != 0)) := by
  unfold ordV
  rw [if_neg (by omega)]
  by_cases h1 : k1 = 0
  · by_cases h2 : k2 = 0
    · rw [if_pos (by omega), z1 h1, z2 h2, h1, h2]; rfl
    · rw [if_neg (by omega), if_pos h1, h1]; simp [zB, h2, sgn]
  · have h2 : k2 = 0 := by omega
    rw [if_neg (by omega), if_neg h1, if_pos h2, h2]; simp [zB, h1, sgn]
set_option maxHeartbeats 8000000 in
theorem compare_spec (k1 n1 : Int) (s1 : ByteArray) (k2 n2 : Int) (s2 : ByteArray) (w : World) (hs1 : s1.size ≤ 1048576) (hs2 : s2.size ≤ 1048576) :
    Calls Tryz.prog 78 #[.agg #[.int .i64 k1, .int .i64 n1, .string s1], .agg #[.int .i64 k2, .int .i64 n2, .string s2]] w fun e w' => e = .returned (.tuple #[.int .i64 (cmpR k1 n1 s1 k2 n2 s2).1, .int .i64 (cmpR k1 n1 s1 k2 n2 s2).2]) ∧ Below w.heap.size w w' := by
  have bw0 : Below w.heap.size w ((w.alloc (.cells #[.int .i64 k1, .int .i64 n1, .string s1] 29)).alloc (.cells #[.int .i64 k2, .int .i64 n2, .string s2] 29)) := (below_alloc w _).alloc (by simp) _
  cases hv1 : vok k1 n1 s1 with
  | false =>
    have HV : Hid (vok k1 n1 s1 = false) := hv1
    have HR : Hid (cmpR k1 n1 s1 k2 n2 s2 = (0, 1)) := (by unfold cmpR; rw [if_pos (.inl hv1)] : cmpR k1 n1 s1 k2 n2 s2 = (0, 1))
    rw [HR.out]
    clear hv1
    go_enter Tryz.func78, Tryz.ntmps78
    go_wp2_with fail
    refine (vok_spec k1 n1 s1 _ hs1).mono ?_
    rw [HV.out]
    rintro e w1 ⟨rfl, hb⟩
    obtain ⟨hc, hf⟩ := bcell hb
    have bw1 : Below w.heap.size w w1 := bw0.trans (hb.mono (by simp; omega))
    go_wp2
    go_ret2
    exact ⟨rfl, bw1⟩
  | true =>
  cases hv2 : vok k2 n2 s2 with
  | false =>
    have HV1 : Hid (vok k1 n1 s1 = true) := hv1
    have HV2 : Hid (vok k2 n2 s2 = false) := hv2
    have HR : Hid (cmpR k1 n1 s1 k2 n2 s2 = (0, 1)) := (by unfold cmpR; rw [if_pos (.inr hv2)] : cmpR k1 n1 s1 k2 n2 s2 = (0, 1))
    rw [HR.out]
    clear hv1 hv2
    go_enter Tryz.func78, Tryz.ntmps78
    go_wp2_with fail
    refine (vok_spec k1 n1 s1 _ hs1).mono ?_
    rw [HV1.out]
    rintro e w1 ⟨rfl, hb⟩
    obtain ⟨hc, hf⟩ := bcell hb
    have bw1 : Below w.heap.size w w1 := bw0.trans (hb.mono (by simp; omega))
    go_wp2_with fail
    refine (vok_spec k2 n2 s2 _ hs2).mono ?_
    rw [HV2.out]
    rintro e w2 ⟨rfl, hb2⟩
    have bw2 : Below w.heap.size w w2 := bw1.trans (hb2.mono bw1.size)
    go_wp2
    go_ret2
    exact ⟨rfl, bw2⟩
  | true =>
    have HV1 : Hid (vok k1 n1 s1 = true) := hv1
    have HV2 : Hid (vok k2 n2 s2 = true) := hv2
    have q1 := vok_kind hv1
    have q2 := vok_kind hv2
    by_cases hz : k1 = 0 ∨ k2 = 0
    · have HR : Hid (cmpR k1 n1 s1 k2 n2 s2 = (sgn (zB (k1 != 0)) (zB (k2 != 0)), 0)) := (by unfold cmpR; rw [if_neg (by rw [hv1, hv2]; simp), if_neg (by simp [together]; omega), ordV_null _ _ _ _ _ _ hz q1.2.2 q2.2.2] : cmpR k1 n1 s1 k2 n2 s2 = (sgn (zB (k1 != 0)) (zB (k2 != 0)), 0))
      have cs : (k1 == 0) = true ∨ ((k1 == 0) = false ∧ (k2 == 0) = true) := by simp only [beq_iff_eq, beq_eq_false_iff_ne]; omega
      clear hv1 hv2 q1 q2 hz
      rcases cs with c1 | ⟨c1, c2⟩
      all_goals
        go_enter Tryz.func78, Tryz.ntmps78
        go_wp2_with fail
        refine (vok_spec k1 n1 s1 _ hs1).mono ?_
        rw [HV1.out]
        rintro e w1 ⟨rfl, hb⟩
        obtain ⟨hc, hf⟩ := bcell hb
        have bw1 : Below w.heap.size w w1 := bw0.trans (hb.mono (by simp; omega))
        have hz1 : w.heap.size + 1 < w1.heap.size := by have := hb.size; simp at this; omega
        have hy1 : w.heap.size < w1.heap.size := by omega
        go_wp2_with fail
        refine (vok_spec k2 n2 s2 _ hs2).mono ?_
        rw [HV2.out]
        rintro e w2 ⟨rfl, hb2⟩
        obtain ⟨hc2, hf2⟩ := bcell hb2
        have bw2 : Below w.heap.size w w2 := bw1.trans (hb2.mono bw1.size)
        have hz2 : w.heap.size + 1 < w2.heap.size := by have := hb2.size; omega
        have hy2 : w.heap.size < w2.heap.size := by omega
        go_wp2
        go_quiet (first | (go_at_call 143; refine (sign_any _ _ _).mono ?_; rintro e w' ⟨rfl, rfl⟩; exact ⟨rfl, _, rfl⟩) | (go_at_call 131; refine (bit_any _ _).mono ?_; rintro e w' ⟨rfl, rfl⟩; exact ⟨rfl, _, rfl⟩))
        go_wp2
        go_ret2
        exact ⟨ret_two (by rw [HR.out]) (by rw [HR.out]), below_drewN bw2 _⟩
    · have e1 : (k1 == 0) = false := by simp; omega
      have e2 : (k2 == 0) = false := by simp; omega
      by_cases h33 : k1 = 3 ∧ k2 = 3
      · obtain ⟨rfl, rfl⟩ := h33
        obtain ⟨xs, hx⟩ := vok_text hv1
        obtain ⟨ys, hy⟩ := vok_text hv2
        have HR : Hid (cmpR 3 n1 s1 3 n2 s2 = (cmpL xs ys, 0)) := (by unfold cmpR; rw [if_neg (by rw [hv1, hv2]; simp), if_neg (by simp [together])]; unfold ordV; rw [if_pos ⟨rfl, rfl⟩, cmp_text s1 s2 xs ys hx hy] : cmpR 3 n1 s1 3 n2 s2 = (cmpL xs ys, 0))
        rw [HR.out]
        exact compare_spec_text n1 s1 n2 s2 xs ys w hs1 hs2 hv1 hv2 hx hy
      by_cases hsame : k1 = k2
      · subst hsame
        have h3 : ¬ k1 = 3 := by omega
        have e3 : (k1 != 3) = true := by simpa using h3
        have HR : Hid (cmpR k1 n1 s1 k1 n2 s2 = (sgn n1 n2, 0)) := (by unfold cmpR; rw [if_neg (by rw [hv1, hv2]; simp), if_neg (by simp [together])]; simp [ordV, h3] : cmpR k1 n1 s1 k1 n2 s2 = (sgn n1 n2, 0))
        rw [HR.out]
        clear hv1 hv2 q1 q2 hz h33 h3
        go_enter Tryz.func78, Tryz.ntmps78
        go_wp2_with fail
        refine (vok_spec k1 n1 s1 _ hs1).mono ?_
        rw [HV1.out]
        rintro e w1 ⟨rfl, hb⟩
        obtain ⟨hc, hf⟩ := bcell hb
        have bw1 : Below w.heap.size w w1 := bw0.trans (hb.mono (by simp; omega))
        have hz1 : w.heap.size + 1 < w1.heap.size := by have := hb.size; simp at this; omega
        have hy1 : w.heap.size < w1.heap.size := by omega
        go_wp2_with fail
        refine (vok_spec k1 n2 s2 _ hs2).mono ?_
        rw [HV2.out]
        rintro e w2 ⟨rfl, hb2⟩
        obtain ⟨hc2, hf2⟩ := bcell hb2
        have bw2 : Below w.heap.size w w2 := bw1.trans (hb2.mono bw1.size)
        have hz2 : w.heap.size + 1 < w2.heap.size := by have := hb2.size; omega
        have hy2 : w.heap.size < w2.heap.size := by omega
        go_wp2_with (go_at_call 143; refine (sign_any _ _ _).mono ?_; rintro e w' ⟨rfl, rfl⟩)
        go_ret2
        exact ⟨rfl, bw2⟩
      have e4 : (k1 == k2) = false := by simpa using hsame
      by_cases h12 : k1 = 1 ∧ k2 = 2
      · obtain ⟨rfl, rfl⟩ := h12
        have b2 := q2.2.1 rfl
        have HR : Hid (cmpR 1 n1 s1 2 n2 s2 = (cmpID n1 n2, 0)) := (by unfold cmpR; rw [if_neg (by rw [hv1, hv2]; simp), if_neg (by simp [together])]; simp [ordV] : cmpR 1 n1 s1 2 n2 s2 = (cmpID n1 n2, 0))
        rw [HR.out]
        clear hv1 hv2 q1 q2 hz h33 e1 e2 e4 hsame
        go_enter Tryz.func78, Tryz.ntmps78
        go_wp2_with fail
        refine (vok_spec 1 n1 s1 _ hs1).mono ?_
        rw [HV1.out]
        rintro e w1 ⟨rfl, hb⟩
        obtain ⟨hc, hf⟩ := bcell hb
        have bw1 : Below w.heap.size w w1 := bw0.trans (hb.mono (by simp; omega))
        have hz1 : w.heap.size + 1 < w1.heap.size := by have := hb.size; simp at this; omega
        have hy1 : w.heap.size < w1.heap.size := by omega
        go_wp2_with fail
        refine (vok_spec 2 n2 s2 _ hs2).mono ?_
        rw [HV2.out]
        rintro e w2 ⟨rfl, hb2⟩
        obtain ⟨hc2, hf2⟩ := bcell hb2
        have bw2 : Below w.heap.size w w2 := bw1.trans (hb2.mono bw1.size)
        have hz2 : w.heap.size + 1 < w2.heap.size := by have := hb2.size; omega
        have hy2 : w.heap.size < w2.heap.size := by omega
        go_wp2_with (first | (go_at_call 144; refine (numbers_any _ _ _).mono ?_; rintro e w' ⟨rfl, rfl⟩) | (go_at_call 145; refine (intDec_spec _ _ _ b2).mono ?_; rintro e w' ⟨rfl, rfl⟩))
        go_ret2
        exact ⟨rfl, bw2⟩
      by_cases h21 : k1 = 2 ∧ k2 = 1
      · obtain ⟨rfl, rfl⟩ := h21
        have b1 := q1.2.1 rfl
        have hs' : -1 ≤ cmpID n2 n1 ∧ cmpID n2 n1 ≤ 1 := sgn_bd (n2 * 10000) n1
        have HR : Hid (cmpR 2 n1 s1 1 n2 s2 = (- cmpID n2 n1, 0)) := (by unfold cmpR; rw [if_neg (by rw [hv1, hv2]; simp), if_neg (by simp [together])]; simp [ordV] : cmpR 2 n1 s1 1 n2 s2 = (- cmpID n2 n1, 0))
        rw [HR.out]
        clear hv1 hv2 q1 q2 hz h33 e1 e2 e4 hsame h12
        go_enter Tryz.func78, Tryz.ntmps78
        go_wp2_with fail
        refine (vok_spec 2 n1 s1 _ hs1).mono ?_
        rw [HV1.out]
        rintro e w1 ⟨rfl, hb⟩
        obtain ⟨hc, hf⟩ := bcell hb
        have bw1 : Below w.heap.size w w1 := bw0.trans (hb.mono (by simp; omega))
        have hz1 : w.heap.size + 1 < w1.heap.size := by have := hb.size; simp at this; omega
        have hy1 : w.heap.size < w1.heap.size := by omega
        go_wp2_with fail
        refine (vok_spec 1 n2 s2 _ hs2).mono ?_
        rw [HV2.out]
        rintro e w2 ⟨rfl, hb2⟩
        obtain ⟨hc2, hf2⟩ := bcell hb2
        have bw2 : Below w.heap.size w w2 := bw1.trans (hb2.mono bw1.size)
        have hz2 : w.heap.size + 1 < w2.heap.size := by have := hb2.size; omega
        have hy2 : w.heap.size < w2.heap.size := by omega
        go_wp2_with (first | (go_at_call 144; refine (numbers_any _ _ _).mono ?_; rintro e w' ⟨rfl, rfl⟩) | (go_at_call 145; refine (intDec_spec _ _ _ b1).mono ?_; rintro e w' ⟨rfl, rfl⟩))
        go_ret2
        exact ⟨rfl, bw2⟩
      · have HN : Hid (((k1 == 1 && k2 == 2) || (k1 == 2 && k2 == 1)) = false) := (by simp; omega : ((k1 == 1 && k2 == 2) || (k1 == 2 && k2 == 1)) = false)
        have HR : Hid (cmpR k1 n1 s1 k2 n2 s2 = (0, 10)) := (by unfold cmpR; rw [if_neg (by rw [hv1, hv2]; simp), if_pos (by simp [together]; omega)] : cmpR k1 n1 s1 k2 n2 s2 = (0, 10))
        rw [HR.out]
        clear hv1 hv2 q1 q2 hz h33 hsame h12 h21
        go_enter Tryz.func78, Tryz.ntmps78
        go_wp2_with fail
        refine (vok_spec k1 n1 s1 _ hs1).mono ?_
        rw [HV1.out]
        rintro e w1 ⟨rfl, hb⟩
        obtain ⟨hc, hf⟩ := bcell hb
        have bw1 : Below w.heap.size w w1 := bw0.trans (hb.mono (by simp; omega))
        have hz1 : w.heap.size + 1 < w1.heap.size := by have := hb.size; simp at this; omega
        have hy1 : w.heap.size < w1.heap.size := by omega
        go_wp2_with fail
        refine (vok_spec k2 n2 s2 _ hs2).mono ?_
        rw [HV2.out]
        rintro e w2 ⟨rfl, hb2⟩
        obtain ⟨hc2, hf2⟩ := bcell hb2
        have bw2 : Below w.heap.size w w2 := bw1.trans (hb2.mono bw1.size)
        have hz2 : w.heap.size + 1 < w2.heap.size := by have := hb2.size; omega
        have hy2 : w.heap.size < w2.heap.size := by omega
        go_wp2_with (go_at_call 144; refine (numbers_any _ _ _).mono ?_; rw [HN.out]; rintro e w' ⟨rfl, rfl⟩)
        go_ret2
        exact ⟨rfl, bw2⟩
end Go.Proofs.YtdcdoeolaongkaaGreatDoor
namespace Go.Proofs.YtdcdoeolaongkaaGreatDoor
open Go.ChangeShapes Go.WideShapes Go.ChangeAt Go.RowKit Go.Shelf
set_option linter.unusedVariables false
theorem toValue_any (k n : Int) (s : ByteArray) (w : World) :
    Calls Tryz.prog 25 #[.agg #[.int .i64 k, .int .i64 n, .string s]] w fun e w' => e = .returned (.agg #[.int .i64 k, .int .i64 n, .string s]) ∧ Below w.heap.size w w' := by
  go_enter Tryz.func25, Tryz.ntmps25
  go_wp2
  refine bodyPost_ret (v := .agg #[.int .i64 k, .int .i64 n, .string s]) (by simp [results, Tryz.results25, go_sem]) rfl ⟨rfl, ?_⟩
  go_light
  repeat (first | exact Below.refl _ _ | refine Below.setCell ?_ (by simp) _ | refine Below.alloc ?_ (by simp; try omega) _)
theorem sz_yes (k n left : Int) (s : ByteArray) (w : World) (h0 : 0 ≤ left) (hl : left ≤ 1048576) (h : (s.size : Int) ≤ left) :
    Calls Tryz.prog 23 #[.agg #[.int .i64 k, .int .i64 n, .string s], .int .i64 left] w fun e w' => e = .returned (.int .i64 (left - s.size)) ∧ Below w.heap.size w w' := by
  go_enter Tryz.func23, Tryz.ntmps23
  go_wp2
  go_ret
  exact ⟨rfl, below_alloc _ _⟩
theorem sz_no (k n left : Int) (s : ByteArray) (w : World) (h0 : 0 ≤ left) (hl : left ≤ 1048576) (hs : s.size ≤ maxLen) (h : left < (s.size : Int)) :
    Calls Tryz.prog 23 #[.agg #[.int .i64 k, .int .i64 n, .string s], .int .i64 left] w fun e w' => e = .returned (.int .i64 (-1)) ∧ Below w.heap.size w w' := by
  unfold maxLen at hs
  go_enter Tryz.func23, Tryz.ntmps23
  go_wp2
  go_ret
  exact ⟨rfl, below_alloc _ _⟩
end Go.Proofs.YtdcdoeolaongkaaGreatDoor
