import Derived.Test.YtbndliedcanmgaaRQC
import Derived.Test.YtbndliedcanmgaaRPR
namespace Go.Proofs.YtbndliedcanmgaaR
open Go.ChangeShapes Go.WideShapes Go.ChangeAt Go.RowKit
set_option linter.unusedVariables false
set_option linter.unusedSimpArgs false
set_option maxRecDepth 100000
theorem mode_any (c : Nat) (A : Int) (w : World) (h : IsCur w c A) (hA : A ≤ 100000000) :
    Calls Try.prog 15 #[.pointer (some ⟨c, 0, none⟩)] w fun e w' => Drawn c (A + 2) 3 w e w' := by
  have HP := hid (pick_any c A 10 w h hA (by omega) (by omega))
  clear h
  go_enter Try.func15, Try.ntmps15
  go_wp2_with (go_at_call 16; fail)
  refine HP.out.mono ?_
  rintro e w1 ⟨r, r0, r1, rfl, hc, hu⟩
  have HC := hid hc
  have HU := hid hu
  clear hc hu HP
  by_cases h9 : r = 9
  · have e9 : (r == 9) = true := by simpa using h9
    clear h9
    go_wp2
    go_ret
    exact ⟨2, by omega, by omega, rfl, HC.out, HU.out⟩
  · have e9 : (r == 9) = false := by simpa using h9
    by_cases h7 : r = 7
    · have e7 : (r == 7) = true := by simpa using h7
      clear h7 h9
      go_wp2
      go_ret
      exact ⟨1, by omega, by omega, rfl, HC.out, HU.out⟩
    · have e7 : (r == 7) = false := by simpa using h7
      by_cases h8 : r = 8
      · have e8 : (r == 8) = true := by simpa using h8
        clear h7 h8 h9
        go_wp2
        go_ret
        exact ⟨1, by omega, by omega, rfl, HC.out, HU.out⟩
      · have e8 : (r == 8) = false := by simpa using h8
        clear h7 h8 h9
        go_wp2
        go_ret
        exact ⟨0, by omega, by omega, rfl, HC.out, HU.out⟩
/-- Operations in a row that is owned. -/
def opC (o : POp) : List Value := [.int .i64 o.kd, .int .i64 o.pg]
def OpR (b : Nat) (w : World) (v : Value) (ds : List POp) : Prop := w.ownsRow b 26 2 v ds.length (ds.flatMap opC)
theorem infoOp : (Try.prog.info? 26).map (fun i => (i.zero, i.size, i.bytes)) = some (some (.agg #[.int .i64 0, .int .i64 0]), 2, 16) := by kernel_rfl
theorem OpR.form {b : Nat} {w : World} {v : Value} {ds : List POp} (h : OpR b w v ds) : ∃ oa oc, v = .slice oa ds.length oc := by
  rcases h.2 with ⟨rfl, h0⟩ | ⟨g, cap, cur, rfl, _⟩
  · exact ⟨none, 0, by rw [h0]⟩
  · exact ⟨_, _, rfl⟩
theorem OpR.push {b : Nat} {w : World} {v : Value} {ds : List POp} {o : POp} (h : w.ownsRow b 26 2 v (ds.length + 1) (ds.flatMap opC ++ opC o)) : OpR b w v (ds ++ [o]) := by
  unfold OpR
  rw [List.flatMap_append, List.length_append]
  simpa using h
theorem OpR.made {b : Nat} (w : World) (hb : b ≤ w.heap.size) : OpR b (w.alloc (.cells #[] 26)) (.slice (some ⟨w.heap.size, 0, none⟩) 0 0) [] := World.ownsRow_made w #[] 0 hb (by unfold maxLen; omega) (by simp)
theorem OpR.upd {b c : Nat} {w w' : World} {v : Value} {ds : List POp} (h : OpR b w v ds) (u : Upd c w w') (hc : c < b) : OpR b w' v ds :=
  own_same h (fun j hj => u.block j (h.lt j hj).2 (by have := (h.lt j hj).1; omega))
theorem OpR.below {b : Nat} {w w' : World} {v : Value} {ds : List POp} (h : OpR b w v ds) (hb : Below w.heap.size w w') : OpR b w' v ds := own_below h hb
theorem flatO : ∀ (ds : List POp) (i : Nat) (h : i < ds.length) (j : Nat), j < 2 → (ds.flatMap opC)[i * 2 + j]? = (opC ds[i])[j]?
  | t :: r, 0, _, j, hj => by
    rw [List.flatMap_cons, Nat.zero_mul, Nat.zero_add, List.getElem?_append_left (by simpa [opC] using hj)]
    rfl
  | t :: r, i + 1, h, j, hj => by
    rw [List.flatMap_cons, List.getElem?_append_right (by simp [opC]; omega)]
    have : (i + 1) * 2 + j - (opC t).length = i * 2 + j := by simp [opC]; omega
    rw [this]
    exact flatO r i (by simpa using h) j hj
theorem OpR.rs {b : Nat} {w : World} {v : Value} {ds : List POp} (h : OpR b w v ds) : RS 2 CPo 0 w v ds := by
  have hlt := h.lt
  obtain ⟨a, c, rfl⟩ := h.form
  refine ⟨a, c, rfl, fun hp => ?_⟩
  have h2 := h.2
  rcases h2 with ⟨_, h0⟩ | ⟨g, cap, cur, he, hg1, hg2⟩
  · omega
  · simp only [Value.slice.injEq] at he
    obtain ⟨rfl, _, rfl⟩ := he
    refine ⟨g, 0, rfl, Nat.zero_le _, (hlt g rfl).2, fun i hi => ⟨opC ds[i], rfl, fun j hj => ?_⟩⟩
    have hf := flatO ds i hi j hj
    have hl : j < (opC ds[i]).length := by simpa [opC] using hj
    rw [List.getElem?_eq_getElem hl] at hf ⊢
    have := own_cell h hf
    simpa using this
end Go.Proofs.YtbndliedcanmgaaR
