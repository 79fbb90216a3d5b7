import Derived.Test.YtbndliedcanmgaaRQR
namespace Go.Proofs.YtbndliedcanmgaaR
open Go.ChangeShapes Go.WideShapes Go.ChangeAt Go.RowKit
set_option linter.unusedVariables false
set_option linter.unusedSimpArgs false
set_option maxRecDepth 100000
def updN {α : Type} (f : Nat → α) (j : Nat) (x : α) : Nat → α := fun k => if k = j then x else f k
theorem updN_same {α : Type} (f : Nat → α) (j : Nat) (x : α) : updN f j x j = x := if_pos rfl
theorem updN_ne {α : Type} (f : Nat → α) {j k : Nat} (x : α) (h : k ≠ j) : updN f j x k = f k := if_neg h
/-- What the law keeps: a change that is not on the disk is in a dirty frame; what is in a frame has been met. -/
structure Inv (fs : List Fr) (la di : Nat → Int) (me : Nat → Bool) : Prop where
  len : fs.length = 8
  good : Good fs
  dist : fs.Pairwise (fun a b => 0 ≤ a.pg → a.pg ≠ b.pg)
  dirty : ∀ p, p < 300 → la p ≠ di p → ∃ f ∈ fs, f.pg = (p : Int) ∧ f.dy = true
  met : ∀ f ∈ fs, 0 ≤ f.pg → me f.pg.toNat = true
theorem inv0 : Inv (List.replicate 8 f0) (fun _ => 0) (fun _ => 0) (fun _ => false) :=
  ⟨by simp, fun f hf => by rw [List.eq_of_mem_replicate hf]; exact ⟨by decide, fun _ => ⟨rfl, rfl⟩⟩, by
    rw [List.pairwise_replicate]
    exact .inr (fun h => by exact absurd h (by decide)), fun p _ h => absurd rfl h, fun f hf h => by rw [List.eq_of_mem_replicate hf] at h; exact absurd h (by decide)⟩
/-- Frames with the same pages. -/
def SameP (fs gs : List Fr) : Prop := gs.map (·.pg) = fs.map (·.pg)
theorem pair_pg (fs : List Fr) : fs.Pairwise (fun a b => 0 ≤ a.pg → a.pg ≠ b.pg) ↔ (fs.map (·.pg)).Pairwise (fun a b => 0 ≤ a → a ≠ b) := by rw [List.pairwise_map]
theorem set_pg (fs : List Fr) (i : Nat) (x : Fr) (h : ∀ hi : i < fs.length, x.pg = fs[i].pg) : (fs.set i x).map (·.pg) = fs.map (·.pg) := by
  rw [List.map_set]
  by_cases hi : i < fs.length
  · apply List.ext_getElem (by simp)
    intro j h1 h2
    by_cases e : j = i
    · subst e
      rw [List.getElem_set_self, h hi]
      simp
    · rw [List.getElem_set_ne (fun e' => e e'.symm)]
  · rw [List.set_eq_of_length_le (by simp; omega)]
theorem clk_pg : ∀ (n : Nat) (fs : List Fr) (h : Nat), ((clk n fs h).1).map (·.pg) = fs.map (·.pg) ∧ ((clk n fs h).1).map (·.dy) = fs.map (·.dy) ∧ (h < 8 → (clk n fs h).2 < 8)
  | 0, _, _ => ⟨rfl, rfl, fun h => h⟩
  | n + 1, fs, h => by
    rw [clk]
    cases he : fs[h]? with
    | none => exact ⟨rfl, rfl, fun h => h⟩
    | some x =>
      simp only
      split
      · have ih := clk_pg n (fs.set h (x.m false)) ((h + 1) % 8)
        obtain ⟨hi, hx⟩ := List.getElem?_eq_some_iff.1 he
        refine ⟨ih.1.trans (set_pg fs h _ (fun hi => by rw [hx]; rfl)), ih.2.1.trans ?_, fun _ => ih.2.2 (Nat.mod_lt _ (by decide))⟩
        rw [List.map_set]
        apply List.ext_getElem (by simp)
        intro j h1 h2
        by_cases e : j = h
        · subst e
          rw [List.getElem_set_self, List.getElem_map, hx]
          rfl
        · rw [List.getElem_set_ne (fun e' => e e'.symm)]
      · exact ⟨rfl, rfl, fun h => h⟩
theorem clk_len (n : Nat) (fs : List Fr) (h : Nat) : (clk n fs h).1.length = fs.length := by
  have := congrArg List.length (clk_pg n fs h).1
  simpa using this
/-- The law's changes at a use of a page. -/
def diU (la di : Nat → Int) (wr : Int) : Nat → Int := if 0 ≤ wr then updN di wr.toNat (la wr.toNat) else di
def laU (la : Nat → Int) (o : POp) : Nat → Int := if 1 < o.kd then updN la o.pg.toNat (la o.pg.toNat + 1) else la
structure UseL (o : POp) (fs : List Fr) (h : Nat) (la di : Nat → Int) (me : Nat → Bool) : Prop where
  all : (stepF o fs h).1.all = []
  wr0 : -1 ≤ (stepF o fs h).1.wr
  wr1 : (stepF o fs h).1.wr < 300
  rd : (stepF o fs h).1.rd = -1 ∨ (stepF o fs h).1.rd = o.pg
  rd3 : o.kd = 3 → (stepF o fs h).1.rd = -1
  rdm : o.kd < 3 → me o.pg.toNat = false → (stepF o fs h).1.rd = o.pg
  got : 0 ≤ (stepF o fs h).1.rd → diU la di (stepF o fs h).1.wr o.pg.toNat = la o.pg.toNat
  inv : Inv (stepF o fs h).2.1 (laU la o) (diU la di (stepF o fs h).1.wr) (updN me o.pg.toNat true)
  hand : h < 8 → (stepF o fs h).2.2 < 8
theorem diU_eq {la di : Nat → Int} {wr : Int} {p : Nat} (h : la p = di p) : diU la di wr p = la p := by
  unfold diU
  split
  · by_cases e : p = wr.toNat
    · subst e; exact updN_same _ _ _
    · rw [updN_ne _ _ e]; exact h.symm
  · exact h.symm
theorem use_law (o : POp) (fs : List Fr) (h : Nat) (la di : Nat → Int) (me : Nat → Bool) (I : Inv fs la di me) (hk : o.kd = 1 ∨ o.kd = 2 ∨ o.kd = 3) (h0 : 0 ≤ o.pg) (h3 : o.pg < 300) (hh8 : h < 8) : UseL o fs h la di me := by
  have h4 : ¬ o.kd = 4 := by omega
  have hpn : ((o.pg.toNat : Nat) : Int) = o.pg := by omega
  cases hf : findP o.pg fs with
  | some i =>
    obtain ⟨hi, hp, hn⟩ := findP_some_iff hf
    have hu : useF o.pg fs h = ⟨i, true, -1, fs.set i (fs[i].m true), h⟩ := by
      unfold useF setMark
      rw [hf]
      simp only [List.getElem?_eq_getElem hi]
    have hi2 : i < (fs.set i (fs[i].m true)).length := by simpa using hi
    have hs : stepF o fs h = (⟨-1, -1, []⟩, fs.set i ⟨fs[i].pg, true, fs[i].dy || decide (1 < o.kd)⟩, h) := by
      unfold stepF
      rw [if_neg h4, hu]
      simp only
      rw [if_neg (by simp)]
      by_cases h1 : 1 < o.kd
      · rw [if_pos h1]
        have e : setDirty i (fs.set i (fs[i].m true)) = fs.set i ⟨fs[i].pg, true, true⟩ := by
          unfold setDirty
          rw [List.getElem?_eq_getElem hi2]
          simp only [List.getElem_set_self, List.set_set, Fr.d, Fr.m]
        rw [e]
        simp [h1]
      · rw [if_neg h1]
        simp [h1, Fr.m]
    have hmem : fs[i] ∈ fs := List.getElem_mem hi
    refine ⟨by rw [hs], by rw [hs]; simp, by rw [hs]; simp, by rw [hs]; simp, by rw [hs]; simp, fun _ hm => ?_, fun hr => ?_, ?_, fun hh => by rw [hs]; exact hh⟩
    · have := I.met fs[i] hmem (by omega)
      rw [hp, hm] at this
      cases this
    · rw [hs] at hr; simp at hr
    · rw [hs]
      have hd : diU la di (-1) = di := by unfold diU; rw [if_neg (by omega)]
      simp only [hd]
      refine ⟨by simpa using I.len, good_set I.good (by show fs[i].pg < 300; omega) (fun hn => by have : fs[i].pg < 0 := hn; omega), ?_, fun p hp3 hne => ?_, fun f hf0 hf1 => ?_⟩
      · rw [pair_pg, set_pg fs i _ (fun _ => rfl), ← pair_pg]; exact I.dist
      · by_cases e : (p : Int) = o.pg
        · by_cases h1 : 1 < o.kd
          · exact ⟨_, List.mem_set hi _, by show fs[i].pg = _; omega, by simp [h1]⟩
          · have hla : laU la o = la := by unfold laU; rw [if_neg h1]
            rw [hla] at hne
            obtain ⟨f, hf1, hf2, hf3⟩ := I.dirty p hp3 hne
            obtain ⟨j, hj, rfl⟩ := List.getElem_of_mem hf1
            by_cases ej : j = i
            · subst ej
              exact ⟨_, List.mem_set hi _, hf2, by simp [hf3]⟩
            · exact ⟨fs[j], List.mem_iff_getElem.2 ⟨j, by simpa using hj, List.getElem_set_ne (fun e' => ej e'.symm) _⟩, hf2, hf3⟩
        · have hla : laU la o p = la p := by
            unfold laU
            split
            · exact updN_ne _ _ (by omega)
            · rfl
          rw [hla] at hne
          obtain ⟨f, hf1, hf2, hf3⟩ := I.dirty p hp3 hne
          obtain ⟨j, hj, rfl⟩ := List.getElem_of_mem hf1
          by_cases ej : j = i
          · subst ej
            exact ⟨_, List.mem_set hi _, hf2, by simp [hf3]⟩
          · exact ⟨fs[j], List.mem_iff_getElem.2 ⟨j, by simpa using hj, List.getElem_set_ne (fun e' => ej e'.symm) _⟩, hf2, hf3⟩
      · by_cases e : f.pg.toNat = o.pg.toNat
        · rw [e]; exact updN_same _ _ _
        · rw [updN_ne _ _ e]
          rcases List.mem_or_eq_of_mem_set hf0 with hm | rfl
          · exact I.met f hm hf1
          · exact I.met fs[i] hmem hf1
  | none =>
    have hno := findP_none_iff hf
    have hno' : ∀ f ∈ fs, f.pg ≠ o.pg := fun f hm => by obtain ⟨j, hj, rfl⟩ := List.getElem_of_mem hm; exact hno j hj
    rcases hc : clk 9 fs h with ⟨fs1, h1⟩
    have hcp := clk_pg 9 fs h
    rw [hc] at hcp
    obtain ⟨cp, cd, ch⟩ := hcp
    simp only at cp cd ch
    have hl1 : fs1.length = 8 := by have := clk_len 9 fs h; rw [hc] at this; exact this.trans I.len
    have hg1 : Good fs1 := by have := good_clk 9 fs h I.good; rw [hc] at this; exact this
    have mem1 : ∀ {f}, f ∈ fs1 → ∃ g ∈ fs, g.pg = f.pg ∧ g.dy = f.dy := fun {f} hm => by
      obtain ⟨j, hj, rfl⟩ := List.getElem_of_mem hm
      have hj' : j < fs.length := by have := I.len; omega
      have e1 : fs1[j].pg = fs[j].pg := by
        have := congrArg (fun l => l[j]?) cp
        simpa [List.getElem?_eq_getElem hj, List.getElem?_eq_getElem hj'] using this
      have e2 : fs1[j].dy = fs[j].dy := by
        have := congrArg (fun l => l[j]?) cd
        simpa [List.getElem?_eq_getElem hj, List.getElem?_eq_getElem hj'] using this
      exact ⟨fs[j], List.getElem_mem hj', e1.symm, e2.symm⟩
    have mem2 : ∀ {g}, g ∈ fs → ∃ f ∈ fs1, f.pg = g.pg ∧ f.dy = g.dy := fun {g} hm => by
      obtain ⟨j, hj', rfl⟩ := List.getElem_of_mem hm
      have hj : j < fs1.length := by have := I.len; omega
      have e1 : fs1[j].pg = fs[j].pg := by
        have := congrArg (fun l => l[j]?) cp
        simpa [List.getElem?_eq_getElem hj, List.getElem?_eq_getElem hj'] using this
      have e2 : fs1[j].dy = fs[j].dy := by
        have := congrArg (fun l => l[j]?) cd
        simpa [List.getElem?_eq_getElem hj, List.getElem?_eq_getElem hj'] using this
      exact ⟨fs1[j], List.getElem_mem hj, e1, e2⟩
    by_cases hh : h1 < fs1.length
    · have hw : wroteAt fs1 h1 = wroteF fs1[h1] := by unfold wroteAt; rw [List.getElem?_eq_getElem hh]
      have hu : useF o.pg fs h = ⟨h1, false, wroteF fs1[h1], fs1.set h1 ⟨o.pg, true, false⟩, (h1 + 1) % 8⟩ := by
        unfold useF
        rw [hf, hc]
        simp only [hw]
      have hs : stepF o fs h = (⟨if o.kd < 3 then o.pg else -1, wroteF fs1[h1], []⟩, fs1.set h1 ⟨o.pg, true, decide (1 < o.kd)⟩, (h1 + 1) % 8) := by
        unfold stepF
        rw [if_neg h4, hu]
        simp only [true_and]
        by_cases h1' : 1 < o.kd
        · rw [if_pos h1']
          unfold setDirty
          have hi2 : h1 < (fs1.set h1 ⟨o.pg, true, false⟩).length := by simpa using hh
          simp only [List.getElem?_eq_getElem hi2, List.getElem_set_self, List.set_set, Fr.d]
          simp [h1']
        · rw [if_neg h1']
          simp [h1']
      have hx := hg1 fs1[h1] (List.getElem_mem hh)
      have hwr : (wroteF fs1[h1] = -1 ∧ (0 ≤ fs1[h1].pg → fs1[h1].dy = false)) ∨ (wroteF fs1[h1] = fs1[h1].pg ∧ 0 ≤ fs1[h1].pg ∧ fs1[h1].dy = true) := by
        unfold wroteF
        split
        · rename_i hc; exact .inr ⟨rfl, hc.1, hc.2⟩
        · rename_i hc
          refine .inl ⟨rfl, fun hp => ?_⟩
          cases hd : fs1[h1].dy
          · rfl
          · exact absurd ⟨hp, hd⟩ hc
      have hnd : la o.pg.toNat = di o.pg.toNat := by
        cases Int.decEq (la o.pg.toNat) (di o.pg.toNat) with
        | isTrue e => exact e
        | isFalse e =>
          obtain ⟨f, hm, hp, _⟩ := I.dirty o.pg.toNat (by omega) e
          exact absurd (by omega) (hno' f hm)
      refine ⟨by rw [hs], ?_, ?_, ?_, fun hk3 => by rw [hs]; simp [hk3], fun hk3 _ => by rw [hs]; simp [hk3], fun hr => ?_, ?_, fun _ => by rw [hs]; exact Nat.mod_lt _ (by decide)⟩
      · rw [hs]; show -1 ≤ wroteF fs1[h1]; rcases hwr with e | e <;> omega
      · rw [hs]; show wroteF fs1[h1] < 300; rcases hwr with e | e <;> omega
      · rw [hs]; simp only; by_cases hk3 : o.kd < 3 <;> simp [hk3]
      · exact diU_eq hnd
      · rw [hs]
        simp only
        refine ⟨by simpa using hl1, good_set hg1 h3 (fun hn => by have : o.pg < 0 := hn; omega), ?_, fun p hp3 hne => ?_, fun f hf0 hf1 => ?_⟩
        · have hd1 : fs1.Pairwise (fun a b => 0 ≤ a.pg → a.pg ≠ b.pg) := by rw [pair_pg, cp, ← pair_pg]; exact I.dist
          have hno1 : ∀ f ∈ fs1, f.pg ≠ o.pg := fun f hm => by obtain ⟨g, hg, e1, _⟩ := mem1 hm; rw [← e1]; exact hno' g hg
          rw [List.pairwise_iff_getElem] at hd1 ⊢
          intro i j hi hj hij
          have hi' : i < fs1.length := by simpa using hi
          have hj' : j < fs1.length := by simpa using hj
          by_cases ei : i = h1
          · subst ei
            rw [List.getElem_set_self, List.getElem_set_ne (by omega)]
            intro _ e
            exact hno1 _ (List.getElem_mem hj') e.symm
          · rw [List.getElem_set_ne (fun e' => ei e'.symm)]
            by_cases ej : j = h1
            · subst ej
              rw [List.getElem_set_self]
              intro _ e
              exact hno1 _ (List.getElem_mem hi') e
            · rw [List.getElem_set_ne (fun e' => ej e'.symm)]
              exact hd1 i j hi' hj' hij
        · by_cases e : (p : Int) = o.pg
          · have ep : p = o.pg.toNat := by omega
            by_cases h1' : 1 < o.kd
            · exact ⟨_, List.mem_set hh _, by show o.pg = _; omega, by simp [h1']⟩
            · exfalso
              apply hne
              have hla : laU la o = la := by unfold laU; rw [if_neg h1']
              rw [hla, ep]
              exact (diU_eq hnd).symm
          · have hla : laU la o p = la p := by
              unfold laU
              split
              · exact updN_ne _ _ (by omega)
              · rfl
            rw [hla] at hne
            have hne2 : la p ≠ di p := fun e' => hne (diU_eq e').symm
            obtain ⟨g, hg0, hg2, hg3⟩ := I.dirty p hp3 hne2
            obtain ⟨f, hf1, hf2, hf3⟩ := mem2 hg0
            rw [hg2] at hf2
            rw [hg3] at hf3
            obtain ⟨j, hj, rfl⟩ := List.getElem_of_mem hf1
            by_cases ej : j = h1
            · subst ej
              exfalso
              rcases hwr with ⟨_, e2⟩ | ⟨e1, e2, e3⟩
              · have := e2 (by omega)
                rw [hf3] at this
                cases this
              · apply hne
                unfold diU
                rw [if_pos (by omega), show (wroteF fs1[j]).toNat = p by omega]
                exact (updN_same _ _ _).symm
            · exact ⟨fs1[j], List.mem_iff_getElem.2 ⟨j, by simpa using hj, List.getElem_set_ne (fun e' => ej e'.symm) _⟩, hf2, hf3⟩
        · by_cases e : f.pg.toNat = o.pg.toNat
          · rw [e]; exact updN_same _ _ _
          · rw [updN_ne _ _ e]
            rcases List.mem_or_eq_of_mem_set hf0 with hm | rfl
            · obtain ⟨g, hg, e1, _⟩ := mem1 hm
              rw [← e1]
              exact I.met g hg (by omega)
            · exact absurd rfl e
    · exact absurd (by have := ch hh8; omega) hh
end Go.Proofs.YtbndliedcanmgaaR
