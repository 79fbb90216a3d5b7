import Derived.Test.YtbndliedcanmgaaRPV
import Derived.Test.YtbndliedcanmgaaRPN
import Derived.Test.YtbndliedcanmgaaRPC
namespace Go.Proofs.YtbndliedcanmgaaR
open Go.ChangeShapes Go.WideShapes Go.ChangeAt Go.RowKit
set_option linter.unusedVariables false
set_option linter.unusedSimpArgs false
set_option maxRecDepth 100000
theorem cnt_le : ∀ fs : List Fr, cnt fs ≤ fs.length
  | [] => Nat.le_refl _
  | f :: r => by
    have := cnt_le r
    rw [cnt, List.length_cons]
    have : bitN f.ma ≤ 1 := by cases f.ma <;> simp [bitN]
    omega
theorem findP_none_iff {p : Int} : ∀ {fs : List Fr}, findP p fs = none → ∀ j (hj : j < fs.length), fs[j].pg ≠ p
  | f :: r, h, j, hj => by
    rw [findP] at h
    by_cases e : f.pg = p
    · rw [if_pos e] at h; cases h
    · rw [if_neg e] at h
      have h2 : findP p r = none := by simpa using h
      cases j with
      | zero => simpa using e
      | succ j => simpa using findP_none_iff h2 j (by simpa using hj)
theorem findP_some_iff {p : Int} : ∀ {fs : List Fr} {i : Nat}, findP p fs = some i → ∃ hi : i < fs.length, fs[i].pg = p ∧ ∀ j (hj : j < i), (fs[j]'(by omega)).pg ≠ p
  | f :: r, i, h => by
    rw [findP] at h
    by_cases e : f.pg = p
    · rw [if_pos e] at h
      simp only [Option.some.injEq] at h
      subst h
      exact ⟨by simp, by simpa using e, fun j hj => by omega⟩
    · rw [if_neg e] at h
      simp only [Option.map_eq_some_iff] at h
      obtain ⟨k, hk, rfl⟩ := h
      obtain ⟨h1, h2, h3⟩ := findP_some_iff hk
      refine ⟨by simpa using h1, by simpa using h2, fun j hj => ?_⟩
      cases j with
      | zero => simpa using e
      | succ j => simpa using h3 j (by omega)
/-- What the use of a page answers, and the pool behind it. -/
structure UO where
  i : Nat
  th : Bool
  wr : Int
  fs : List Fr
  h : Nat
def setMark (i : Nat) (fs : List Fr) : List Fr := match fs[i]? with
  | some f => fs.set i (f.m true)
  | none => fs
def setDirty (i : Nat) (fs : List Fr) : List Fr := match fs[i]? with
  | some f => fs.set i (f.d true)
  | none => fs
def wroteAt (fs : List Fr) (i : Nat) : Int := match fs[i]? with
  | some f => wroteF f
  | none => -1
def useF (page : Int) (fs : List Fr) (h : Nat) : UO := match findP page fs with
  | some i => ⟨i, true, -1, setMark i fs, h⟩
  | none => ⟨(clk 9 fs h).2, false, wroteAt (clk 9 fs h).1 (clk 9 fs h).2, (clk 9 fs h).1.set (clk 9 fs h).2 ⟨page, true, false⟩, ((clk 9 fs h).2 + 1) % 8⟩
def UseA (q g cap : Nat) (u : UO) (w : World) (e : Ending) (w' : World) : Prop := u.i < 8 ∧ UseP q g cap u.i u.th u.wr u.fs u.h w e w'
theorem use_any (q g cap : Nat) (fs : List Fr) (h : Nat) (page : Int) (w : World) (P : Pool w q g cap fs h) :
    Calls Try.prog 19 #[.pointer (some ⟨q, 0, none⟩), .int .i64 page] w fun e w' => UseA q g cap (useF page fs h) w e w' := by
  have hl := P.len
  unfold useF
  cases hf : findP page fs with
  | some i =>
    obtain ⟨hi, hp, hn⟩ := findP_some_iff hf
    refine (use_hit q g cap fs h page w P i hi hp hn).mono fun e w' hu => ⟨by show i < 8; omega, ?_⟩
    have : setMark i fs = fs.set i (fs[i].m true) := by unfold setMark; rw [List.getElem?_eq_getElem hi]
    simp only [this]
    exact hu
  | none =>
    rcases hc : clk 9 fs h with ⟨fs1, h1⟩
    refine (use_miss q g cap fs h page w P (findP_none_iff hf) (by have := cnt_le fs; omega) fs1 h1 hc).mono fun e w' hu => ?_
    obtain ⟨hh, hu⟩ := hu
    have hl1 := hu.2.1.len
    rw [List.length_set] at hl1
    have : wroteAt fs1 h1 = wroteF fs1[h1] := by unfold wroteAt; rw [List.getElem?_eq_getElem hh]
    refine ⟨by show h1 < 8; omega, ?_⟩
    simp only [this]
    exact hu
/-- An operation of a pool, and what it answers. -/
structure POp where
  kd : Int
  pg : Int
structure POut where
  rd : Int
  wr : Int
  all : List Int
def opOK (o : POp) : Bool := decide (1 ≤ o.kd) && decide (o.kd ≤ 4) && (decide (o.kd = 4) || (decide (0 ≤ o.pg) && decide (o.pg < 300)))
def stepF (o : POp) (fs : List Fr) (h : Nat) : POut × List Fr × Nat :=
  if o.kd = 4 then (⟨-1, -1, (clP 300 ([], fs)).1⟩, (clP 300 ([], fs)).2, h)
  else (⟨if (useF o.pg fs h).th = false ∧ o.kd < 3 then o.pg else -1, (useF o.pg fs h).wr, []⟩, if 1 < o.kd then setDirty (useF o.pg fs h).i (useF o.pg fs h).fs else (useF o.pg fs h).fs, (useF o.pg fs h).h)
def runF : List POp → List Fr → Nat → List POut
  | [], _, _ => []
  | o :: r, fs, h => (stepF o fs h).1 :: runF r (stepF o fs h).2.1 (stepF o fs h).2.2
/-- PoolRun. -/
def poolF (os : List POp) : List POut × Int := if 4000 < os.length then ([], 5) else if os.all opOK then (runF os (List.replicate 8 f0) 0, 0) else ([], 1)
end Go.Proofs.YtbndliedcanmgaaR
