import Derived.Test.YtblkgicbimflhaaGreatKAC
namespace Go.Proofs.YtblkgicbimflhaaGreat
open Go.ChangeShapes Go.WideShapes Go.ChangeAt Go.RowKit
set_option linter.unusedVariables false
set_option linter.unusedSimpArgs false
set_option maxRecDepth 100000
open List (setIfInBounds_toArray set_cons_zero set_cons_succ)
def insK (out : List Int) (k : Int) : List Int :=
 if (out.dropWhile (fun x => decide (x < k))).head? = some k then out else out.takeWhile (fun x => decide (x < k)) ++ k :: out.dropWhile (fun x => decide (x < k))
theorem cut_at {out : List Int} {k : Int} : ∀ {j : Nat}, j ≤ out.length → (∀ i (h : i < out.length), i < j → out[i] < k) → (∀ h : j < out.length, ¬ out[j] < k) → out.takeWhile (fun x => decide (x < k)) = out.take j ∧ out.dropWhile (fun x => decide (x < k)) = out.drop j := by
 induction out with
 | nil => intro j hj _ _; simp
 | cons a r ih =>
   intro j hj h1 h2
   cases j with
   | zero =>
     have hn : ¬ a < k := h2 (by simp)
     simp [List.takeWhile_cons, List.dropWhile_cons, hn]
   | succ j =>
     have ha : a < k := h1 0 (by simp) (by omega)
     have hr := ih (j := j) (by simpa using hj) (fun i hi hij => h1 (i + 1) (by simpa using hi) (by omega)) (fun h => h2 (by simpa using h))
     simp [ha, hr.1, hr.2]
theorem insK_new {out : List Int} {k : Int} {j : Nat} (hj : j ≤ out.length) (h1 : ∀ i (h : i < out.length), i < j → out[i] < k) (h2 : ∀ h : j < out.length, k < out[j]) : insK out k = out.take j ++ [k] ++ out.drop j := by
 obtain ⟨e1, e2⟩ := cut_at hj h1 (fun h => by have := h2 h; omega)
 unfold insK
 rw [e1, e2]
 have : ¬ (out.drop j).head? = some k := by
  rw [List.head?_drop]
  intro e
  obtain ⟨hl, he⟩ := List.getElem?_eq_some_iff.1 e
  have := h2 hl
  omega
 rw [if_neg this]
 simp
theorem insK_there {out : List Int} {k : Int} {j : Nat} (hj : j < out.length) (h1 : ∀ i (h : i < out.length), i < j → out[i] < k) (h2 : out[j] = k) : insK out k = out := by
 obtain ⟨e1, e2⟩ := cut_at (Nat.le_of_lt hj) h1 (fun h => by omega)
 unfold insK
 rw [e2, List.head?_drop, List.getElem?_eq_getElem hj, h2, if_pos rfl]
theorem insK_len (out : List Int) (k : Int) : (insK out k).length ≤ out.length + 1 := by
 unfold insK
 split
 ·omega
 ·rw [List.length_append, List.length_cons]
  have := congrArg List.length (List.takeWhile_append_dropWhile (p := fun x => decide (x < k)) (l := out))
  rw [List.length_append] at this
  omega
def putK (tb : Int) (out : List Int) (c : Cel) : List Int := if c.tb = tb then insK out c.ky else out
def foldK (tb : Int) (cs : List Cel) : List Int := cs.foldl (putK tb) []
theorem foldK_step {tb : Int} {cs : List Cel} {k : Nat} (h : k < cs.length) : foldK tb (cs.take (k + 1)) = putK tb (foldK tb (cs.take k)) cs[k] := by
 unfold foldK
 rw [show cs.take (k + 1) = cs.take k ++ [cs[k]] by rw [List.take_add_one, List.getElem?_eq_getElem h]; rfl, List.foldl_append]
 rfl
theorem foldK_len (tb : Int) : ∀ (cs : List Cel), (foldK tb cs).length ≤ cs.length := by
 intro cs
 have key : ∀ (cs : List Cel) (out : List Int), (cs.foldl (putK tb) out).length ≤ out.length + cs.length := by
  intro cs
  induction cs with
  | nil => intro out; simp
  | cons c r ih =>
    intro out
    rw [List.foldl_cons, List.length_cons]
    have h1 := ih (putK tb out c)
    have h2 : (putK tb out c).length ≤ out.length + 1 := by unfold putK; split; exact insK_len _ _; omega
    omega
 have := key cs []
 simpa [foldK] using this
def allC (cms : List Com) (own : List Cel) : List Cel := own ++ cms.flatMap (·.cs)
def keysF (cms : List Com) (own : List Cel) (tb : Int) : List Int := foldK tb (allC cms own)
theorem allC_step {cms : List Com} {own : List Cel} {k : Nat} (h : k < cms.length) : allC (cms.take (k + 1)) own = allC (cms.take k) own ++ cms[k].cs := by
 unfold allC
 rw [show cms.take (k + 1) = cms.take k ++ [cms[k]] by rw [List.take_add_one, List.getElem?_eq_getElem h]; rfl, List.flatMap_append]
 simp
theorem allC_le {cms : List Com} {own : List Cel} {k : Nat} : (allC (cms.take k) own).length ≤ (allC cms own).length := by
 unfold allC
 rw [List.length_append, List.length_append]
 have : (cms.flatMap (·.cs)) = ((cms.take k).flatMap (·.cs)) ++ ((cms.drop k).flatMap (·.cs)) := by rw [← List.flatMap_append, List.take_append_drop]
 rw [this, List.length_append]
 omega
theorem infoCel : (Tryz.prog.info? 106).map (fun i => (i.zero, i.size, i.bytes)) = some (some (.agg #[.int .i64 0, .int .i64 0, .int .i64 0, .bool false]), 4, 32) := by kernel_rfl
theorem part_rs {b : Nat} {w : World} {a : Option Addr} {c : Nat} {xs : List Int} (h : RS 1 CI b w (.slice a xs.length c) xs) (j : Nat) (hj : j ≤ xs.length) : RS 1 CI b w (.slice a (xs.take j).length c) (xs.take j) := by
 obtain ⟨a', c', he, hh⟩ := h
 simp only [Value.slice.injEq] at he
 obtain ⟨rfl, _, rfl⟩ := he
 refine ⟨a, c, rfl, fun hp => ?_⟩
 rw [List.length_take] at hp
 obtain ⟨g, o, e2, h1, h2, h3⟩ := hh (by omega)
 refine ⟨g, o, e2, h1, h2, fun i hi => ?_⟩
 rw [List.length_take] at hi
 obtain ⟨cs, x, y⟩ := h3 i (by omega)
 exact ⟨cs, by rw [List.getElem_take]; exact x, y⟩
theorem rest_rs {b g o : Nat} {w : World} {c d : Nat} {xs : List Int} (h : RS 1 CI b w (.slice (some ⟨g, o, none⟩) xs.length c) xs) (j : Nat) (hj : j ≤ xs.length) : RS 1 CI b w (.slice (some ⟨g, o + j, none⟩) (xs.drop j).length d) (xs.drop j) := by
 obtain ⟨a', c', he, hh⟩ := h
 simp only [Value.slice.injEq] at he
 obtain ⟨rfl, _, rfl⟩ := he
 refine ⟨_, d, rfl, fun hp => ?_⟩
 rw [List.length_drop] at hp
 obtain ⟨g', o', e2, h1, h2, h3⟩ := hh (by omega)
 cases e2
 refine ⟨g, o + j, rfl, h1, h2, fun i hi => ?_⟩
 rw [List.length_drop] at hi
 obtain ⟨cs, x, y⟩ := h3 (j + i) (by omega)
 refine ⟨cs, by rw [List.getElem_drop]; exact x, fun q hq => ?_⟩
 have := y q hq
 rw [show o + j + i * 1 + q = o + (j + i) * 1 + q by omega]
 exact this
end Go.Proofs.YtblkgicbimflhaaGreat
