import Derived.Test.YtfgjleifhjegkaaDoorKG0
namespace Go.Proofs.YtfgjleifhjegkaaDoor
open Go.ChangeShapes Go.WideShapes Go.ChangeAt Go.RowKit
set_option linter.unusedVariables false
set_option linter.unusedSimpArgs false
set_option maxRecDepth 100000
def vcs (t : VA) : List Value := [.int .i64 t.k, .int .i64 t.n, .string t.s]
theorem flat3 : ∀ (us : List VA) (i : Nat) (h : i < us.length) (j : Nat), j < 3 → (us.flatMap vcs)[i * 3 + j]? = (vcs us[i])[j]?
  | t :: r, 0, _, j, hj => by
    rw [List.flatMap_cons, Nat.zero_mul, Nat.zero_add, List.getElem?_append_left (by simpa [vcs] using hj)]
    rfl
  | t :: r, i + 1, h, j, hj => by
    rw [List.flatMap_cons, List.getElem?_append_right (by simp [vcs]; omega)]
    have : (i + 1) * 3 + j - (vcs t).length = i * 3 + j := by simp [vcs]; omega
    rw [this]
    exact flat3 r i (by simpa using h) j hj
theorem flat3_len (us : List VA) : (us.flatMap vcs).length = us.length * 3 := by
  induction us with
  | nil => simp
  | cons t r ih => rw [List.flatMap_cons, List.length_append, ih, List.length_cons]; simp [vcs]; omega
/-- Values that were told one behind the other. -/
def VOut (b : Nat) (w : World) (v : Value) (us : List VA) : Prop := w.ownsRow b 39 3 v us.length (us.flatMap vcs)
theorem VOut.below {b : Nat} {w w' : World} {v : Value} {us : List VA} (h : VOut b w v us) (hb : Below w.heap.size w w') : VOut b w' v us := own_below h hb
theorem VOut.form {b : Nat} {w : World} {v : Value} {us : List VA} (h : VOut b w v us) : ∃ oa oc, v = .slice oa us.length oc := by
  obtain ⟨_, h2⟩ := h
  rcases h2 with ⟨rfl, h0⟩ | ⟨q, cap, cur, rfl, _⟩
  · exact ⟨none, 0, by rw [h0]⟩
  · exact ⟨_, _, rfl⟩
theorem VOut.push {b : Nat} {w : World} {v : Value} {us : List VA} {t : VA} (h : w.ownsRow b 39 3 v (us.length + 1) (us.flatMap vcs ++ vcs t)) : VOut b w v (us ++ [t]) := by
  unfold VOut
  rw [List.flatMap_append, List.length_append]
  simpa using h
theorem VOut.rsw {b : Nat} {w : World} {v : Value} {us : List VA} (h : VOut b w v us) : RSW 3 CV b w v us := by
  obtain ⟨hl, h2⟩ := h
  rcases h2 with ⟨rfl, h0⟩ | ⟨g, cap, cur, rfl, hg1, hg2, hg3⟩
  · exact ⟨none, 0, by rw [h0], fun hp => by omega⟩
  · have ho : w.ownsRow b 39 3 (.slice (some ⟨g, 0, none⟩) us.length cap) us.length (us.flatMap vcs) := ⟨hl, .inr ⟨g, cap, cur, rfl, hg1, hg2, hg3⟩⟩
    refine ⟨_, _, rfl, fun _ => ⟨g, 0, rfl, hg1, (ho.lt _ rfl).2, fun i hi => ⟨vcs us[i], rfl, fun j hj => ⟨?_, ho.frozenAt _⟩⟩⟩⟩
    have hlt : i * 3 + j < (us.flatMap vcs).length := by rw [flat3_len]; omega
    rw [Nat.zero_add, ← flat3 us i hi j hj, List.getElem?_eq_getElem hlt]
    exact own_cell ho (List.getElem?_eq_getElem hlt)
theorem infoV : (Tryd.prog.info? 39).map (fun i => (i.zero, i.size, i.bytes)) = some (some (.agg #[.int .i64 0, .int .i64 0, .string ⟨#[]⟩]), 3, 32) := by kernel_rfl
theorem RS.win {w : World} {g o n cap c : Nat} {xs : List Int} (h : RS 1 CY 0 w (.slice (some ⟨g, o, none⟩) xs.length cap) xs) (i m : Nat) (hi : i + m ≤ xs.length) : RS 1 CY 0 w (.slice (some ⟨g, o + i, none⟩) ((xs.drop i).take m).length c) ((xs.drop i).take m) := by
  refine ⟨_, _, rfl, fun hp => ?_⟩
  obtain ⟨a', cap', he, h2⟩ := h
  simp only [Value.slice.injEq] at he
  obtain ⟨rfl, _, rfl⟩ := he
  have hml : ((xs.drop i).take m).length = m := by rw [List.length_take, List.length_drop]; omega
  obtain ⟨g', o', e, hB, hg, hc⟩ := h2 (by omega)
  cases e
  refine ⟨g, o + i, rfl, hB, hg, fun j hj => ?_⟩
  have hj' : i + j < xs.length := by omega
  obtain ⟨cs, x, y⟩ := hc (i + j) hj'
  refine ⟨cs, ?_, fun l hl => ?_⟩
  · have : ((xs.drop i).take m)[j] = xs[i + j] := by simp
    rw [this]; exact x
  · have := y l hl
    rw [show o + i + j * 1 + l = o + (i + j) * 1 + l by omega]
    exact this
def slen : Value → Nat
  | .slice _ n _ => n
  | _ => 0
end Go.Proofs.YtfgjleifhjegkaaDoor
