import Derived.Test.YtbndliedcanmgaaRQA
namespace Go.Proofs.YtbndliedcanmgaaR
open Go.ChangeShapes Go.WideShapes Go.ChangeAt Go.RowKit
set_option linter.unusedVariables false
set_option linter.unusedSimpArgs false
set_option maxRecDepth 100000
/-- The dirty pages in the frames' order. -/
def dirt (fs : List Fr) : List Int := (fs.filter (·.dy)).map (·.pg)
def hitP (p : Int) (f : Fr) : Bool := decide (f.pg = p) && f.dy
def selP (p : Int) (fs : List Fr) : List Int := (fs.filter (hitP p)).map (fun _ => p)
def clrP (p : Int) (f : Fr) : Fr := if hitP p f then f.d false else f
theorem sel_push (p : Int) (a : List Fr) (x : Fr) (h : hitP p x = true) : selP p (a ++ [x]) = selP p a ++ [p] := by simp [selP, h]
theorem sel_pass (p : Int) (a : List Fr) (x : Fr) (h : ¬ hitP p x = true) : selP p (a ++ [x]) = selP p a := by simp [selP, h]
theorem clI_all (p : Int) (out : List Int) (fs : List Fr) : ∀ i, i ≤ fs.length → clI p i (out, fs) = (out ++ selP p (fs.take i), (fs.take i).map (clrP p) ++ fs.drop i)
  | 0, _ => by simp [clI, selP]
  | i + 1, hi => by
    have ih := clI_all p out fs i (by omega)
    have hl : ((fs.take i).map (clrP p)).length = i := by simp; omega
    have hif : i < ((fs.take i).map (clrP p) ++ fs.drop i).length := by simp; omega
    have hd : fs.drop i = fs[i] :: fs.drop (i + 1) := List.drop_eq_getElem_cons (by omega)
    have hx : ((fs.take i).map (clrP p) ++ fs.drop i)[i] = fs[i] := by
      apply Option.some.inj
      rw [← List.getElem?_eq_getElem, List.getElem?_append_right (by omega), hl, Nat.sub_self, hd]
      rfl
    have ht : fs.take (i + 1) = fs.take i ++ [fs[i]] := by rw [List.take_add_one, List.getElem?_eq_getElem (by omega)]; rfl
    by_cases hh : hitP p fs[i] = true
    · have h1 : fs[i].pg = p := by unfold hitP at hh; simp at hh; exact hh.1
      have h2 : fs[i].dy = true := by unfold hitP at hh; simp at hh; exact hh.2
      rw [clI_hit ih hif (by rw [hx]; exact h1) (by rw [hx]; exact h2), ht, sel_push p _ _ hh, hx, List.append_assoc, List.set_append_right _ _ (by omega), hl, Nat.sub_self, hd, List.map_append, List.append_assoc]
      have e : clrP p fs[i] = fs[i].d false := by unfold clrP; rw [if_pos hh]
      simp only [List.set_cons_zero, List.map_cons, List.map_nil, e]
      rfl
    · have hn : ¬ (fs[i].pg = p ∧ fs[i].dy = true) := fun e => hh (by unfold hitP; simp [e.1, e.2])
      rw [clI_miss ih hif (by rw [hx]; exact hn), ht, sel_pass p _ _ hh, hd, List.map_append, List.append_assoc]
      have e : clrP p fs[i] = fs[i] := by unfold clrP; rw [if_neg hh]
      simp only [List.map_cons, List.map_nil, e]
      rfl
/-- The pages in turn. -/
def sumP : Nat → List Fr → List Int
  | 0, _ => []
  | n + 1, fs => sumP n fs ++ selP (n : Int) fs
def clrN (n : Nat) (f : Fr) : Fr := if decide (0 ≤ f.pg) && decide (f.pg < (n : Int)) && f.dy then f.d false else f
theorem hit_clrN (n : Nat) (f : Fr) : hitP (n : Int) (clrN n f) = hitP (n : Int) f := by
  unfold clrN
  split
  · rename_i h
    simp at h
    unfold hitP
    have : ¬ f.pg = (n : Int) := by omega
    simp [Fr.d, this]
  · rfl
theorem clr_clrN (n : Nat) (f : Fr) : clrP (n : Int) (clrN n f) = clrN (n + 1) f := by
  unfold clrP
  rw [hit_clrN]
  unfold hitP clrN
  by_cases h : f.dy = true
  · by_cases h1 : f.pg = (n : Int)
    · rw [if_pos (by simp [h, h1]), if_neg (by simp [h1]), if_pos (by simp [h, h1]; omega)]
    · rw [if_neg (by simp [h1])]
      by_cases h2 : 0 ≤ f.pg ∧ f.pg < (n : Int)
      · rw [if_pos (by simp [h, h2]), if_pos (by simp [h]; omega)]
      · rw [if_neg (by simp [h]; omega), if_neg (by simp [h]; omega)]
  · rw [if_neg (by simp [h]), if_neg (by simp [h]), if_neg (by simp [h])]
theorem sel_map (n : Nat) (fs : List Fr) : selP (n : Int) (fs.map (clrN n)) = selP (n : Int) fs := by
  induction fs with
  | nil => rfl
  | cons f r ih =>
    unfold selP at ih ⊢
    simp only [List.map_cons, List.filter_cons, hit_clrN]
    by_cases h : hitP (n : Int) f = true
    · simp [h]; simpa using ih
    · simp [h]; simpa using ih
theorem clP_all (fs : List Fr) (hl : fs.length = 8) : ∀ n, clP n ([], fs) = (sumP n fs, fs.map (clrN n))
  | 0 => by
    have : fs.map (clrN 0) = fs := by
      refine (List.map_congr_left fun f _ => ?_).trans (List.map_id _)
      unfold clrN
      rw [if_neg (by simp; omega)]
      rfl
    rw [this]; rfl
  | n + 1 => by
    have e : clP (n + 1) ([], fs) = clI (n : Int) 8 (clP n ([], fs)) := rfl
    rw [e, clP_all fs hl n]
    have h8 := clI_all (n : Int) (sumP n fs) (fs.map (clrN n)) (fs.map (clrN n)).length (Nat.le_refl _)
    rw [List.length_map, hl] at h8
    rw [h8]
    have e1 : (fs.map (clrN n)).take 8 = fs.map (clrN n) := List.take_of_length_le (by simp [hl])
    have e2 : (fs.map (clrN n)).drop 8 = [] := List.drop_eq_nil_of_le (by simp [hl])
    rw [e1, e2, sel_map]
    refine Prod.ext rfl ?_
    simp only [List.append_nil, List.map_map]
    exact List.map_congr_left fun f _ => clr_clrN n f
theorem sel_eq {p : Int} {fs : List Fr} {x : Int} (h : x ∈ selP p fs) : x = p := by
  unfold selP at h
  simp at h
  exact h.2.symm
theorem sum_lt {fs : List Fr} : ∀ {n : Nat} {x : Int}, x ∈ sumP n fs → x < n
  | 0, _, h => by cases h
  | n + 1, x, h => by
    rw [sumP] at h
    rcases List.mem_append.1 h with h | h
    · have := sum_lt h; omega
    · have := sel_eq h; omega
theorem sum_sorted (fs : List Fr) : ∀ n, (sumP n fs).Pairwise (fun x y => decide (x ≤ y) = true)
  | 0 => List.Pairwise.nil
  | n + 1 => by
    rw [sumP, List.pairwise_append]
    refine ⟨sum_sorted fs n, ?_, fun a ha b hb => ?_⟩
    · unfold selP
      rw [List.pairwise_map]
      exact List.pairwise_iff_forall_sublist.2 (fun {a b} _ => by simp)
    · have := sum_lt ha
      have := sel_eq hb
      simp; omega
def lowP (n : Nat) (fs : List Fr) : List Int := (fs.filter (fun f : Fr => decide (f.pg < (n : Int)) && f.dy)).map (fun f => f.pg)
theorem low_on (n : Nat) : ∀ fs : List Fr, (lowP (n + 1) fs).Perm (lowP n fs ++ selP (n : Int) fs)
  | [] => by simp [lowP, selP]
  | f :: r => by
    have ih := low_on n r
    unfold lowP selP at ih ⊢
    simp only [List.filter_cons, hitP]
    by_cases hd : f.dy = true
    · by_cases h1 : f.pg < (n : Int)
      · have h2 : f.pg < ((n + 1 : Nat) : Int) := by omega
        have h3 : ¬ f.pg = (n : Int) := by omega
        simp only [hd, h1, h2, h3, decide_true, decide_false, Bool.and_true, Bool.false_and, if_true, List.map_cons, List.cons_append, Bool.false_eq_true, if_false]
        exact List.Perm.cons _ ih
      · by_cases h3 : f.pg = (n : Int)
        · have h2 : f.pg < ((n + 1 : Nat) : Int) := by omega
          simp only [hd, h1, h2, decide_true, decide_false, Bool.and_true, Bool.false_and, if_true, List.map_cons, Bool.false_eq_true, if_false]
          rw [if_pos (by simp [h3])]
          rw [List.map_cons, h3]
          exact (List.Perm.cons _ ih).trans List.perm_middle.symm
        · have h2 : ¬ f.pg < ((n + 1 : Nat) : Int) := by omega
          simp only [hd, h1, h2, h3, decide_false, Bool.and_true, Bool.false_eq_true, if_false]
          exact ih
    · have hf : f.dy = false := by simpa using hd
      simp only [hf, Bool.and_false, Bool.false_eq_true, if_false]
      exact ih
theorem low_sum (fs : List Fr) (hg : Good fs) : ∀ n, (lowP n fs).Perm (sumP n fs)
  | 0 => by
    have : lowP 0 fs = [] := by
      unfold lowP
      rw [List.filter_eq_nil_iff.2, List.map_nil]
      intro f hf h
      simp at h
      have := ((hg f hf).2 h.1).2
      rw [h.2] at this
      cases this
    rw [this]; exact List.Perm.nil
  | n + 1 => (low_on n fs).trans ((low_sum fs hg n).append_right _)
theorem clP_good (fs : List Fr) (hl : fs.length = 8) (hg : Good fs) : clP 300 ([], fs) = ((dirt fs).mergeSort (fun x y => decide (x ≤ y)), fs.map (fun f => f.d false)) := by
  rw [clP_all fs hl 300]
  refine Prod.ext ?_ ?_
  · have e : lowP 300 fs = dirt fs := by
      unfold lowP dirt
      rw [List.filter_congr fun f hf => ?_]
      have := (hg f hf).1
      simp
      intro _
      omega
    have hp := (low_sum fs hg 300).symm
    rw [e] at hp
    exact List.Perm.eq_of_pairwise (le := fun x y => decide (x ≤ y) = true) (fun a b _ _ h1 h2 => by simp at h1 h2; omega) (sum_sorted fs 300) (List.pairwise_mergeSort (fun a b c h1 h2 => by simp at h1 h2 ⊢; omega) (fun a b => by simp; omega) _) (hp.trans (List.mergeSort_perm _ _).symm)
  · refine List.map_congr_left fun f hf => ?_
    unfold clrN
    by_cases hd : f.dy = true
    · have h1 := (hg f hf).1
      have h0 : ¬ f.pg < 0 := fun h => by have := ((hg f hf).2 h).2; rw [hd] at this; cases this
      rw [if_pos]
      simp [hd]
      omega
    · have hdf : f.dy = false := by simpa using hd
      rw [if_neg (by simp [hdf])]
      cases f
      simp at hdf
      subst hdf
      rfl
end Go.Proofs.YtbndliedcanmgaaR
