import Derived.Test.YtblkgicbimflhaaGreatSAV
import Derived.OrdersHeld
import Derived.RegionTactic
namespace Go.Proofs.YtblkgicbimflhaaGreat
open Go.ChangeShapes Go.WideShapes Go.ChangeAt Go.RowKit
set_option linter.unusedVariables false
set_option linter.unusedSimpArgs false
set_option maxRecDepth 100000
set_option maxHeartbeats 16000000
section
variable {P : Program} {ops : Array Oper} {Q : Exit -> Act -> World -> Prop} {md : Region.Mode} {S : World -> Prop} {late : List Nat}
def Early (late : List Nat) (listed : Array Bool) : Prop := ∀ l ∈ late, listed.getD l true = false
def wpTill (P : Program) (md : Region.Mode) (ops : Array Oper) (Q : Exit -> Act -> World -> Prop) (S : World -> Prop) (late : List Nat) : Nat -> Array Bool -> Act -> World -> Prop
 | 0, listed, a, w => Region.ready md ops listed = [] /\ Q .normal a w
 | f + 1, listed, a, w => (Region.ready md ops listed = [] -> Q .normal a w) /\ ∀ i ∈ Region.ready md ops listed, wpOp P ops Q i (fun a' w' => (Early late (listed.setIfInBounds i true) -> S w') /\ wpTill P md ops Q S late f (listed.setIfInBounds i true) a' w') a w
theorem wpTill.any : ∀ (f : Nat) (listed : Array Bool) (a : Act) (w : World), wpTill P md ops Q S late f listed a w -> wpAny P md ops Q f listed a w
 | 0, _, _, _, h => h
 | f + 1, _, _, _, h => ⟨h.1, fun i hi => wpOp_mono (fun a' w' z => wpTill.any f _ a' w' z.2) (h.2 i hi)⟩
theorem early_set {listed : Array Bool} {i : Nat} (hi : ¬ i ∈ late) : Early late (listed.setIfInBounds i true) ↔ Early late listed := by
 constructor
 .intro h l hl
  have := h l hl
  rw [getD_set_ne true (show i ≠ l from fun z => hi (by rw [z]; exact hl))] at this
  exact this
 .intro h l hl
  rw [getD_set_ne true (show i ≠ l from fun z => hi (by rw [z]; exact hl))]
  exact h l hl
theorem unlisted {listed : Array Bool} {i : Nat} (h : listed.getD i true = false) : listed.getD i false = false := by
 rcases Nat.lt_or_ge i listed.size with z | z
 .simp [z] at h ⊢; exact h
 .simp [Array.getElem?_eq_none z] at h
theorem waits_no {listed : Array Bool} {i j : Nat} {oj : Oper} (hi : i ∈ Region.ready md ops listed) (hj : j ∈ Region.ready md ops listed) (hoj : ops[j]? = some oj) : ∀ e ∈ oj.after, Region.binds md e = true -> e.on ≠ i := fun e he hb z => by
 obtain ⟨_, o, ho, hall⟩ := mem_ready.1 hj
 rw [hoj] at ho
 injection ho with ho
 subst ho
 have h1 := hall e he hb
 rw [z, unlisted (mem_ready.1 hi).1] at h1
 cases h1
theorem free_set {listed : Array Bool} {i j : Nat} {oi : Oper} (hjun : listed.getD j true = false) (h : ∀ k ok, ops[k]? = some ok -> k ≠ i -> listed.getD k true = false -> (∀ e ∈ ok.after, Region.binds md e = true -> e.on ≠ i) -> oi.apart ops ok = true) : ∀ k ok, ops[k]? = some ok -> k ≠ i -> (listed.setIfInBounds j true).getD k true = false -> (∀ e ∈ ok.after, Region.binds md e = true -> e.on ≠ i) -> oi.apart ops ok = true := fun k ok hk hki hun hno => by
 refine h k ok hk hki ?_ hno
 by_cases e : j = k
 .rw [<- e]; exact hjun
 .rw [getD_set_ne true e] at hun; exact hun
theorem wpTill.load {i : Nat} {oi : Oper} {v : Value} (hi : ops[i]? = some oi) (hsel : ∀ (j : Nat) (o : Oper) cs b, ops[j]? = some o -> o.op ≠ .select cs b) (hQ : ∀ c a w, Q (.panic c) (a.put oi.dst v) w -> Q (.panic c) a w)
 (hlate : ∀ l ∈ late, ∃ ol, ops[l]? = some ol /\ ∃ e ∈ ol.after, Region.binds md e = true /\ e.on = i) :
 ∀ (f : Nat) (listed : Array Bool) (a : Act) (w : World),
  (∀ k ok, ops[k]? = some ok -> k ≠ i -> listed.getD k true = false -> (∀ e ∈ ok.after, Region.binds md e = true -> e.on ≠ i) -> oi.apart ops ok = true) ->
  i ∈ Region.ready md ops listed -> Early late listed -> YieldsIf P ops S oi v a -> S w ->
  wpTill P md ops Q S late f (listed.setIfInBounds i true) (a.put oi.dst v) w -> wpTill P md ops Q S late (f + 1) listed a w := by
 have hnl : ∀ listed : Array Bool, i ∈ Region.ready md ops listed -> ∀ j ∈ Region.ready md ops listed, ¬ j ∈ late := fun listed hr j hj hl => by
  obtain ⟨ol, ho, e, he, hb, hon⟩ := hlate j hl
  exact waits_no hr hj ho e he hb hon
 intro f
 induction f with
 | zero =>
   intro listed a w _ hr _ hy hS H
   refine ⟨fun z => (by rw [z] at hr; cases hr), fun j hj => ?_⟩
   by_cases hji : j = i
   .subst hji; exact hy.wpOp hi hS ⟨fun _ => hS, H⟩
   .have z := ready_mono hj hji
    rw [H.1] at z
    cases z
 | succ f ih =>
   intro listed a w hfree hr hE hy hS H
   refine ⟨fun z => (by rw [z] at hr; cases hr), fun j hj => ?_⟩
   by_cases hji : j = i
   .subst hji; exact hy.wpOp hi hS ⟨fun _ => hS, H⟩
   .obtain ⟨hjun, oj, hoj, _⟩ := mem_ready.1 hj
    have h1 := H.2 j (ready_mono hj hji)
    have h2 := wpOp_putIf hoj (hfree j oj hoj hji hjun (waits_no hr hj hoj)) (fun cs b => hsel i oi cs b hi) (fun cs b => hsel j oj cs b hoj) hQ hy h1
    have hjl := hnl listed hr j hj
    have hil := hnl listed hr i hr
    have hE1 : Early late (listed.setIfInBounds j true) := (early_set hjl).2 hE
    have hE2 : Early late ((listed.setIfInBounds i true).setIfInBounds j true) := (early_set hjl).2 ((early_set hil).2 hE)
    refine wpOp_mono (fun a' w' z => ⟨fun _ => z.2.1 hE2, ih (listed.setIfInBounds j true) a' w' (free_set hjun hfree) (ready_mono hr (Ne.symm hji)) hE1 z.1 (z.2.1 hE2) ?_⟩) h2
    rw [Array.setIfInBounds_comm _ _ hji]
    exact z.2.2
theorem wpTill.free {i : Nat} {oi : Oper} {v : Value} (hi : ops[i]? = some oi) (hsel : ∀ (j : Nat) (o : Oper) cs b, ops[j]? = some o -> o.op ≠ .select cs b) (hQ : ∀ c a w, Q (.panic c) (a.put oi.dst v) w -> Q (.panic c) a w) (hil : ¬ i ∈ late) :
 ∀ (f : Nat) (listed : Array Bool) (a : Act) (w : World),
  (∀ k ok, ops[k]? = some ok -> k ≠ i -> listed.getD k true = false -> (∀ e ∈ ok.after, Region.binds md e = true -> e.on ≠ i) -> oi.apart ops ok = true) ->
  i ∈ Region.ready md ops listed -> Yields P ops oi v a -> (Early late listed -> S w) ->
  wpTill P md ops Q S late f (listed.setIfInBounds i true) (a.put oi.dst v) w -> wpTill P md ops Q S late (f + 1) listed a w := by
 intro f
 induction f with
 | zero =>
   intro listed a w _ hr hy hS H
   refine ⟨fun z => (by rw [z] at hr; cases hr), fun j hj => ?_⟩
   by_cases hji : j = i
   .subst hji; exact hy.wpOp hi ⟨fun z => hS ((early_set hil).1 z), H⟩
   .have z := ready_mono hj hji
    rw [H.1] at z
    cases z
 | succ f ih =>
   intro listed a w hfree hr hy hS H
   refine ⟨fun z => (by rw [z] at hr; cases hr), fun j hj => ?_⟩
   by_cases hji : j = i
   .subst hji; exact hy.wpOp hi ⟨fun z => hS ((early_set hil).1 z), H⟩
   .obtain ⟨hjun, oj, hoj, _⟩ := mem_ready.1 hj
    have h1 := H.2 j (ready_mono hj hji)
    have h2 := wpOp_put hoj (hfree j oj hoj hji hjun (waits_no hr hj hoj)) (fun cs b => hsel i oi cs b hi) (fun cs b => hsel j oj cs b hoj) hQ hy h1
    have hcomm : (listed.setIfInBounds i true).setIfInBounds j true = (listed.setIfInBounds j true).setIfInBounds i true := Array.setIfInBounds_comm _ _ (Ne.symm hji)
    have hSS : ∀ w' : World, (Early late ((listed.setIfInBounds i true).setIfInBounds j true) -> S w') -> Early late (listed.setIfInBounds j true) -> S w' := fun w' z y => z (by rw [hcomm]; exact (early_set hil).2 y)
    refine wpOp_mono (fun a' w' z => ⟨hSS w' z.2.1, ih (listed.setIfInBounds j true) a' w' (free_set hjun hfree) (ready_mono hr (Ne.symm hji)) z.1 (hSS w' z.2.1) ?_⟩) h2
    rw [<- hcomm]
    exact z.2.2
end
end Go.Proofs.YtblkgicbimflhaaGreat
namespace Go.Proofs.YtblkgicbimflhaaGreat
open Go.ChangeShapes Go.WideShapes Go.ChangeAt Go.RowKit
set_option linter.unusedVariables false
set_option linter.unusedSimpArgs false
set_option maxRecDepth 100000
set_option maxHeartbeats 16000000
section
variable {P : Program} {ops : Array Oper} {Q : Exit -> Act -> World -> Prop} {md : Region.Mode} {S : World -> Prop} {late : List Nat}
def lateB (md : Region.Mode) (ops : Array Oper) (late : List Nat) (i : Nat) : Bool := late.all fun l => match ops[l]? with
 | some ol => ol.after.any (fun e => Region.binds md e && e.on == i)
 | none => false
def earlyB (late : List Nat) (listed : Array Bool) : Bool := late.all fun l => !listed.getD l true
theorem early_of {listed : Array Bool} (h : earlyB late listed = true) : Early late listed := fun l hl => by
 have := List.all_eq_true.1 h l hl
 simpa using this
theorem early_not {listed : Array Bool} (h : earlyB late listed = false) : ¬ Early late listed := fun z => by
 have : earlyB late listed = true := List.all_eq_true.2 fun l hl => by simpa using z l hl
 rw [h] at this; cases this
theorem late_of {i : Nat} (h : lateB md ops late i = true) : ∀ l ∈ late, ∃ ol, ops[l]? = some ol /\ ∃ e ∈ ol.after, Region.binds md e = true /\ e.on = i := fun l hl => by
 have h1 := List.all_eq_true.1 h l hl
 split at h1
 .rename_i ol ho
  obtain ⟨e, he, hb⟩ := Array.any_eq_true'.1 h1
  simp only [Bool.and_eq_true, beq_iff_eq] at hb
  exact ⟨ol, ho, e, he, hb⟩
 .cases h1
theorem till_take {i : Nat} {oi : Oper} {v : Value} {f : Nat} {listed : Array Bool} {a : Act} {w : World} (hi : ops[i]? = some oi) (hs : Region.noSelect ops = true) (hf : Region.free md ops listed i = true) (hr : (Region.ready md ops listed).contains i = true) (hil : late.contains i = false) (hQ : ∀ c a w, Q (.panic c) (a.put oi.dst v) w -> Q (.panic c) a w) (hy : Yields P ops oi v a) (hS : S w)
 (h : wpTill P md ops Q S late f (listed.setIfInBounds i true) (a.put oi.dst v) w) : wpTill P md ops Q S late (f + 1) listed a w :=
 wpTill.free hi (Region.noSelect_spec hs) hQ (fun z => by rw [List.contains_iff_mem.2 z] at hil; cases hil) f listed a w (Region.free_spec hi hf) (by simpa using hr) hy (fun _ => hS) h
def Closed (md : Region.Mode) (ops : Array Oper) (listed : Array Bool) : Prop := ∀ k ok, listed.getD k false = true -> ops[k]? = some ok -> ∀ e ∈ ok.after, Region.binds md e = true -> listed.getD e.on false = true
def closedB (md : Region.Mode) (ops : Array Oper) (listed : Array Bool) : Bool := (List.range ops.size).all fun k => !listed.getD k false || match ops[k]? with
 | some ok => ok.after.all (fun e => !Region.binds md e || listed.getD e.on false)
 | none => true
theorem closed_of {listed : Array Bool} (h : closedB md ops listed = true) : Closed md ops listed := fun k ok hk hok e he hb => by
 have h1 := List.all_eq_true.1 h k (List.mem_range.2 (Array.getElem?_eq_some_iff.1 hok).1)
 simp only [hk, hok, Bool.not_true, Bool.false_or] at h1
 have h2 := Array.all_eq_true_iff_forall_mem.1 h1 e he
 simpa [hb] using h2
theorem listed_mono {listed : Array Bool} {j x : Nat} (h : listed.getD x false = true) : (listed.setIfInBounds j true).getD x false = true := by
 by_cases e : j = x
 .subst e
  rcases Nat.lt_or_ge j listed.size with z | z
  .simp [z]
  .simp [Array.getElem?_eq_none z] at h
 .rw [getD_set_ne false e]; exact h
theorem Closed.set {listed : Array Bool} {j : Nat} (h : Closed md ops listed) (hj : j ∈ Region.ready md ops listed) : Closed md ops (listed.setIfInBounds j true) := fun k ok hk hok e he hb => by
 by_cases z : j = k
 .subst z
  obtain ⟨_, o, ho, hall⟩ := mem_ready.1 hj
  rw [hok] at ho
  injection ho with ho
  subst ho
  exact listed_mono (hall e he hb)
 .rw [getD_set_ne false z] at hk
  exact listed_mono (h k ok hk hok e he hb)
def waitsB (md : Region.Mode) (ops : Array Oper) : Nat -> Nat -> Nat -> Bool
 | 0, _, _ => false
 | n + 1, l, i => match ops[l]? with
   | some ol => ol.after.any fun e => Region.binds md e && (e.on == i || waitsB md ops n e.on i)
   | none => false
theorem waits_step {n l i : Nat} (h : waitsB md ops (n + 1) l i = true) : ∃ ol, ops[l]? = some ol /\ ∃ e ∈ ol.after, Region.binds md e = true /\ (e.on = i \/ waitsB md ops n e.on i = true) := by
 unfold waitsB at h
 split at h
 .rename_i ol ho
  obtain ⟨e, he, hb⟩ := Array.any_eq_true'.1 h
  simp only [Bool.and_eq_true, Bool.or_eq_true, beq_iff_eq] at hb
  exact ⟨ol, ho, e, he, hb⟩
 .cases h
theorem waits_listed {listed : Array Bool} {i : Nat} (hc : Closed md ops listed) : ∀ (n k : Nat), listed.getD k false = true -> waitsB md ops n k i = true -> listed.getD i false = true
 | 0, _, _, h => by cases h
 | n + 1, k, hk, h => by
   obtain ⟨ol, ho, e, he, hb, z⟩ := waits_step h
   have h1 := hc k ol hk ho e he hb
   rcases z with z | z
   .rw [<- z]; exact h1
   .exact waits_listed hc n e.on h1 z
theorem waits_ready {listed : Array Bool} {i l : Nat} (hc : Closed md ops listed) (hl : l ∈ Region.ready md ops listed) : ∀ (n : Nat), waitsB md ops n l i = true -> listed.getD i false = true
 | 0, h => by cases h
 | n + 1, h => by
   obtain ⟨ol, ho, e, he, hb, z⟩ := waits_step h
   obtain ⟨_, o, ho2, hall⟩ := mem_ready.1 hl
   rw [ho] at ho2
   injection ho2 with ho2
   subst ho2
   have h1 := hall e he hb
   rcases z with z | z
   .rw [<- z]; exact h1
   .exact waits_listed hc n e.on h1 z
theorem wpTill.load2 {i n : Nat} {oi : Oper} {v : Value} (hi : ops[i]? = some oi) (hsel : ∀ (j : Nat) (o : Oper) cs b, ops[j]? = some o -> o.op ≠ .select cs b) (hQ : ∀ c a w, Q (.panic c) (a.put oi.dst v) w -> Q (.panic c) a w)
 (hlate : ∀ l ∈ late, waitsB md ops n l i = true) :
 ∀ (f : Nat) (listed : Array Bool) (a : Act) (w : World), Closed md ops listed ->
  (∀ k ok, ops[k]? = some ok -> k ≠ i -> listed.getD k true = false -> (∀ e ∈ ok.after, Region.binds md e = true -> e.on ≠ i) -> oi.apart ops ok = true) ->
  i ∈ Region.ready md ops listed -> Early late listed -> YieldsIf P ops S oi v a -> S w ->
  wpTill P md ops Q S late f (listed.setIfInBounds i true) (a.put oi.dst v) w -> wpTill P md ops Q S late (f + 1) listed a w := by
 have hnl : ∀ listed : Array Bool, Closed md ops listed -> i ∈ Region.ready md ops listed -> ∀ j ∈ Region.ready md ops listed, ¬ j ∈ late := fun listed hc hr j hj hl => by
  have h1 := waits_ready hc hj n (hlate j hl)
  rw [unlisted (mem_ready.1 hr).1] at h1
  cases h1
 intro f
 induction f with
 | zero =>
   intro listed a w hc _ hr _ hy hS H
   refine ⟨fun z => (by rw [z] at hr; cases hr), fun j hj => ?_⟩
   by_cases hji : j = i
   .subst hji; exact hy.wpOp hi hS ⟨fun _ => hS, H⟩
   .have z := ready_mono hj hji
    rw [H.1] at z
    cases z
 | succ f ih =>
   intro listed a w hc hfree hr hE hy hS H
   refine ⟨fun z => (by rw [z] at hr; cases hr), fun j hj => ?_⟩
   by_cases hji : j = i
   .subst hji; exact hy.wpOp hi hS ⟨fun _ => hS, H⟩
   .obtain ⟨hjun, oj, hoj, _⟩ := mem_ready.1 hj
    have h1 := H.2 j (ready_mono hj hji)
    have h2 := wpOp_putIf hoj (hfree j oj hoj hji hjun (waits_no hr hj hoj)) (fun cs b => hsel i oi cs b hi) (fun cs b => hsel j oj cs b hoj) hQ hy h1
    have hjl := hnl listed hc hr j hj
    have hil := hnl listed hc hr i hr
    have hE1 : Early late (listed.setIfInBounds j true) := (early_set hjl).2 hE
    have hE2 : Early late ((listed.setIfInBounds i true).setIfInBounds j true) := (early_set hjl).2 ((early_set hil).2 hE)
    refine wpOp_mono (fun a' w' z => ⟨fun _ => z.2.1 hE2, ih (listed.setIfInBounds j true) a' w' (hc.set hj) (free_set hjun hfree) (ready_mono hr (Ne.symm hji)) hE1 z.1 (z.2.1 hE2) ?_⟩) h2
    rw [Array.setIfInBounds_comm _ _ hji]
    exact z.2.2
def lateB2 (md : Region.Mode) (ops : Array Oper) (late : List Nat) (i : Nat) : Bool := late.all fun l => waitsB md ops 3 l i
theorem till_load {i : Nat} {oi : Oper} {v : Value} {f : Nat} {listed : Array Bool} {a : Act} {w : World} (hi : ops[i]? = some oi) (hs : Region.noSelect ops = true) (hf : Region.free md ops listed i = true) (hr : (Region.ready md ops listed).contains i = true) (hl : lateB2 md ops late i = true) (hc : closedB md ops listed = true) (he : earlyB late listed = true) (hQ : ∀ c a w, Q (.panic c) (a.put oi.dst v) w -> Q (.panic c) a w) (hy : YieldsIf P ops S oi v a) (hS : S w)
 (h : wpTill P md ops Q S late f (listed.setIfInBounds i true) (a.put oi.dst v) w) : wpTill P md ops Q S late (f + 1) listed a w :=
 wpTill.load2 (n := 3) hi (Region.noSelect_spec hs) hQ (fun l z => List.all_eq_true.1 hl l z) f listed a w (closed_of hc) (Region.free_spec hi hf) (by simpa using hr) (early_of he) hy hS h
theorem till_tk {i : Nat} {oi : Oper} {v : Value} {f : Nat} {listed : Array Bool} {a : Act} {w : World} (hi : ops[i]? = some oi) (hy : Yields P ops oi v a) (hS : S w)
 (h : wpTill P md ops Q S late f (listed.setIfInBounds i true) (a.put oi.dst v) w) (hQ : ∀ c a w, Q (.panic c) (a.put oi.dst v) w -> Q (.panic c) a w := by exact fun _ _ _ h => h) (hs : Region.noSelect ops = true := by kernel_rfl) (hf : Region.free md ops listed i = true := by kernel_rfl) (hr : (Region.ready md ops listed).contains i = true := by kernel_rfl) (hil : late.contains i = false := by kernel_rfl) : wpTill P md ops Q S late (f + 1) listed a w := till_take hi hs hf hr hil hQ hy hS h
theorem till_ld {i : Nat} {oi : Oper} {v : Value} {f : Nat} {listed : Array Bool} {a : Act} {w : World} (hi : ops[i]? = some oi) (hy : YieldsIf P ops S oi v a) (hS : S w)
 (h : wpTill P md ops Q S late f (listed.setIfInBounds i true) (a.put oi.dst v) w) (hQ : ∀ c a w, Q (.panic c) (a.put oi.dst v) w -> Q (.panic c) a w := by exact fun _ _ _ h => h) (hs : Region.noSelect ops = true := by kernel_rfl) (hf : Region.free md ops listed i = true := by kernel_rfl) (hr : (Region.ready md ops listed).contains i = true := by kernel_rfl) (hl : lateB2 md ops late i = true := by kernel_rfl) (hc : closedB md ops listed = true := by kernel_rfl) (he : earlyB late listed = true := by kernel_rfl) : wpTill P md ops Q S late (f + 1) listed a w := till_load hi hs hf hr hl hc he hQ hy hS h
theorem tT (i : Nat) {oi : Oper} {v : Value} {f : Nat} {listed : Array Bool} {a : Act} {w : World} (hi : ops.toList[i]? = some oi) (hS : S w)
 (h : wpTill P md ops Q S late f (listed.setIfInBounds i true) (a.put oi.dst v) w) (hy : Yields P ops oi v a := by exact Or.inl ⟨by rfl, by intro w; go_simp; try with_reducible rfl⟩) (hQ : ∀ c a w, Q (.panic c) (a.put oi.dst v) w -> Q (.panic c) a w := by exact fun _ _ _ h => h) (hs : Region.noSelect ops = true := by kernel_rfl) (hf : Region.free md ops listed i = true := by kernel_rfl) (hr : (Region.ready md ops listed).contains i = true := by kernel_rfl) (hil : late.contains i = false := by kernel_rfl) : wpTill P md ops Q S late (f + 1) listed a w := till_take (Array.getElem?_toList.symm.trans hi) hs hf hr hil hQ hy hS h
def TillAll (P : Program) (md : Region.Mode) (ops : Array Oper) (Q : Exit -> Act -> World -> Prop) (S : World -> Prop) (late : List Nat) (f : Nat) (listed : Array Bool) (a : Act) (w : World) (rs : List Nat) : Prop :=
 ∀ i ∈ rs, wpOp P ops Q i (fun a' w' => (Early late (listed.setIfInBounds i true) -> S w') /\ wpTill P md ops Q S late f (listed.setIfInBounds i true) a' w') a w
theorem TillAll.nil {f : Nat} {listed : Array Bool} {a : Act} {w : World} : TillAll P md ops Q S late f listed a w [] := fun _ h => by cases h
theorem TillAll.cons {f : Nat} {listed : Array Bool} {a : Act} {w : World} {i : Nat} {o : Oper} {rs : List Nat} (ho : ops[i]? = some o)
 (h : ∀ K' : Act -> World -> Prop, (∀ a w, S w /\ wpTill P md ops Q S late f (listed.setIfInBounds i true) a w -> K' a w) -> if Region.wanted o (yielded ops a.tmps) = true then Oper.wp P o a w K' Q else K' (a.put o.dst undef) w)
 (hs : TillAll P md ops Q S late f listed a w rs) : TillAll P md ops Q S late f listed a w (i :: rs) := fun j hj => by
 rcases List.mem_cons.1 hj with rfl | hj
 .exact wpOp_step ho (fun K' hK => h K' (fun a w z => hK a w ⟨fun _ => z.1, z.2⟩))
 .exact hs j hj
theorem TillAll.cons2 {f : Nat} {listed : Array Bool} {a : Act} {w : World} {i : Nat} {o : Oper} {rs : List Nat} (ho : ops[i]? = some o) (he : earlyB late (listed.setIfInBounds i true) = false)
 (h : ∀ K' : Act -> World -> Prop, (∀ a w, wpTill P md ops Q S late f (listed.setIfInBounds i true) a w -> K' a w) -> if Region.wanted o (yielded ops a.tmps) = true then Oper.wp P o a w K' Q else K' (a.put o.dst undef) w)
 (hs : TillAll P md ops Q S late f listed a w rs) : TillAll P md ops Q S late f listed a w (i :: rs) := fun j hj => by
 rcases List.mem_cons.1 hj with rfl | hj
 .exact wpOp_step ho (fun K' hK => h K' (fun a w z => hK a w ⟨fun y => absurd y (early_not he), z⟩))
 .exact hs j hj
theorem till_ready {rs : List Nat} {f : Nat} {listed : Array Bool} {a : Act} {w : World} (hr : Region.ready md ops listed = rs) (hne : rs ≠ []) (h : TillAll P md ops Q S late f listed a w rs) : wpTill P md ops Q S late (f + 1) listed a w :=
 ⟨fun h0 => absurd (hr ▸ h0) hne, hr ▸ h⟩
theorem rE (i : Nat) {o : Oper} {f : Nat} {listed : Array Bool} {a : Act} {w : World} (ho : ops.toList[i]? = some o) (h : ∀ K' : Act -> World -> Prop, (∀ a w, S w /\ wpTill P md ops Q S late f (listed.setIfInBounds i true) a w -> K' a w) -> if Region.wanted o (yielded ops a.tmps) = true then Oper.wp P o a w K' Q else K' (a.put o.dst undef) w) (hr : Region.ready md ops listed = [i] := by kernel_rfl) : wpTill P md ops Q S late (f + 1) listed a w := till_ready hr (by simp) (TillAll.cons (Array.getElem?_toList.symm.trans ho) h TillAll.nil)
theorem rL (i : Nat) {o : Oper} {f : Nat} {listed : Array Bool} {a : Act} {w : World} (ho : ops.toList[i]? = some o) (h : ∀ K' : Act -> World -> Prop, (∀ a w, wpTill P md ops Q S late f (listed.setIfInBounds i true) a w -> K' a w) -> if Region.wanted o (yielded ops a.tmps) = true then Oper.wp P o a w K' Q else K' (a.put o.dst undef) w) (hr : Region.ready md ops listed = [i] := by kernel_rfl) (he : earlyB late (listed.setIfInBounds i true) = false := by kernel_rfl) : wpTill P md ops Q S late (f + 1) listed a w := till_ready hr (by simp) (TillAll.cons2 (Array.getElem?_toList.symm.trans ho) he h TillAll.nil)
theorem till_done {listed : Array Bool} {a : Act} {w : World} (hr : Region.ready md ops listed = []) (h : Q .normal a w) : ∀ f, wpTill P md ops Q S late f listed a w
 | 0 => ⟨hr, h⟩
 | _ + 1 => ⟨fun _ => h, by rw [hr]; simp⟩
theorem wp_region_till_drew {id : Nat} {a : Act} {w : World} (hm : P.follows .mixedOrders = true) (hS : S w.drew)
 (h : S w.drew -> wpTill P .any ops Q S late ops.size (Array.replicate ops.size false) a w.drew) : (Code.region id ops true).wp P Q a w :=
 wp_region_any hm (wpTill.any _ _ _ _ (h hS))
end
end Go.Proofs.YtblkgicbimflhaaGreat
