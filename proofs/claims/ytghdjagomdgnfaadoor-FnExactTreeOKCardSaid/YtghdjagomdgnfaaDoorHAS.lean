import Derived.Test.YtghdjagomdgnfaaDoorHAM
import Derived.Test.YtghdjagomdgnfaaDoorHAR
import Derived.Test.YtghdjagomdgnfaaDoorHAQ
import Derived.Test.YtghdjagomdgnfaaDoorHAO
import Derived.Test.YtghdjagomdgnfaaDoorHAP
namespace Go.Proofs.YtghdjagomdgnfaaDoor
open Go.ChangeShapes Go.WideShapes Go.ChangeAt Go.RowKit
set_option linter.unusedVariables false
set_option linter.unusedSimpArgs false
set_option maxRecDepth 100000
open K
theorem ordS_kids : ∀ (r : List (List Int)) (i : Nat) (st st' : List Int), ordS r i st = some st' → (∀ x ∈ st, ∃ j : Nat, x = (j : Int) ∧ j < i) → ∀ p (h : p < r.length), ∀ x ∈ r[p], ∃ j : Nat, x = (j : Int) ∧ j < i + p
  | [], _, _, _, _, _, p, h, _, _ => by simp at h
  | ks :: r, i, st, st', he, hst, p, h, x, hx => by
    unfold ordS at he
    split at he
    · rename_i hc
      cases p with
      | zero =>
        have hx' : x ∈ ks := hx
        rw [← hc.2] at hx'
        obtain ⟨j, h1, h2⟩ := hst x (List.mem_of_mem_drop hx')
        exact ⟨j, h1, by omega⟩
      | succ p =>
        have ih := ordS_kids r (i + 1) _ st' he (fun y hy => by
          rcases List.mem_append.1 hy with h1 | h1
          · obtain ⟨j, a, b⟩ := hst y (List.mem_of_mem_take h1)
            exact ⟨j, a, by omega⟩
          · rw [List.mem_singleton] at h1
            exact ⟨i, h1, by omega⟩) p (by simpa using h) x hx
        obtain ⟨j, a, b⟩ := ih
        exact ⟨j, a, by omega⟩
    · cases he
theorem ordB_kids {ts : List Nd} (h : ordB ts = true) (i : Nat) (hi : i < ts.length) : ∀ x ∈ ts[i].kids, ∃ j : Nat, x = (j : Int) ∧ j < i := by
  unfold ordB at h
  split at h
  · rename_i st he
    intro x hx
    have := ordS_kids _ 0 [] st he (fun x hx => by simp at hx) i (by simpa using hi) x (by simpa using hx)
    simpa using this
  · cases h
theorem fit_one {S : Int} {ops : List Int} {ps : List (Int × Int × Int)} (h : fit ops ((S, 1, 1) :: ps) = true) : ∃ x r, ops = x :: r ∧ hasOp S x = true ∧ fit r ps = true := by
  cases ops with
  | nil => simp [fit, lead] at h
  | cons x r =>
    cases hx : hasOp S x
    · simp [fit, lead, hx] at h
    · have hl : lead S (x :: r) 1 = 1 := by
        unfold lead
        rw [hx]
        cases r <;> simp [lead]
      unfold fit at h
      have h1 : ((1 : Int)).toNat = 1 := rfl
      rw [h1, hl] at h
      exact ⟨x, r, rfl, hx, by simpa using h⟩
theorem fit_nil {ops : List Int} (h : fit ops [] = true) : ops = [] := by
  unfold fit at h
  simpa using h
theorem hasOp27 : ∀ x : Fin 65, hasOp (setI [27]) (x.val : Int) = decide (x.val = 27) := by decide
end Go.Proofs.YtghdjagomdgnfaaDoor
namespace Go.Proofs.YtghdjagomdgnfaaDoor
open Go.ChangeShapes Go.WideShapes Go.ChangeAt Go.RowKit
set_option linter.unusedVariables false
set_option linter.unusedSimpArgs false
set_option maxRecDepth 100000
open K
theorem formD_rng {op n : Int} {f : FD} (h : formD op n = some f) : (1 ≤ op ∧ op ≤ 33) ∨ (40 ≤ op ∧ op ≤ 64) := by
  by_cases hr : (1 ≤ op ∧ op ≤ 33) ∨ (40 ≤ op ∧ op ≤ 64)
  · exact hr
  · exfalso
    have : formD op n = none := by
      unfold formD
      split <;> first | rfl | omega
    rw [this] at h
    cases h
theorem formD_ok {op n : Int} {f : FD} (h : formD op n = some f) : f.kids.length ≤ 5 ∧ ∀ p ∈ f.kids, 0 ≤ p.2.2 ∧ p.2.2 ≤ 9223372036854775807 := by
  unfold formD at h
  split at h
  all_goals first | (obtain rfl := Option.some.inj h; simp; done) | (split at h <;> (obtain rfl := Option.some.inj h; simp; done)) | cases h
def opsOf (ts : List Nd) (t : Nd) : List Int := t.kids.map fun k => opA ts k.toNat
/-- What hangs on more than one field or kid. -/
def choB (ts : List Nd) (t : Nd) : Bool :=
  if t.op = 1 then vok t.vk t.vn t.vs && !((t.vk == 1 || t.vk == 2) && decide (t.vn < 0))
  else if t.op = 5 then t.n != 13
  else if t.op = 12 then decide (2 ≤ (t.kids.length : Int) - t.m - t.n) && ((t.kids.length : Int) - t.m - t.n) % 2 == 0
  else if t.op = 30 then t.n != -1 || t.m != -1
  else if t.op = 9 ∨ t.op = 17 then begB ts ((t.kids.getLast?).getD 0).toNat
  else true
def nodI (ts : List Nd) (t : Nd) : Bool := match formD t.op t.n with
  | none => false
  | some f => fldB f t && (fit (opsOf ts t) f.kids && choB ts t)
theorem nodI_some {ts : List Nd} {t : Nd} (h : nodI ts t = true) : ∃ f, formD t.op t.n = some f ∧ fldB f t = true ∧ fit (opsOf ts t) f.kids = true := by
  unfold nodI at h
  split at h
  · cases h
  · rename_i f he
    simp only [Bool.and_eq_true] at h
    exact ⟨f, he, h.1, h.2.1⟩
theorem opsOf_cons {ts : List Nd} {t : Nd} {x : Int} {r : List Int} (h : opsOf ts t = x :: r) : ∃ k ks, t.kids = k :: ks ∧ opA ts k.toNat = x ∧ r = ks.map fun k => opA ts k.toNat := by
  unfold opsOf at h
  cases hk : t.kids with
  | nil => rw [hk] at h; cases h
  | cons k ks => rw [hk] at h; simp at h; exact ⟨k, ks, rfl, h.1, h.2.symm⟩
theorem kids_26 {ts : List Nd} {t : Nd} (h : nodI ts t = true) (ho : t.op = 26 ∨ t.op = 27) : ∃ k ks, t.kids = k :: ks := by
  obtain ⟨f, hf, _, hfit⟩ := nodI_some h
  have : ∃ S ps, f.kids = (S, 1, 1) :: ps := by
    rcases ho with ho | ho
    all_goals
      rw [ho] at hf
      obtain rfl := Option.some.inj hf
      exact ⟨_, _, rfl⟩
  obtain ⟨S, ps, e⟩ := this
  rw [e] at hfit
  obtain ⟨x, r, h1, _⟩ := fit_one hfit
  obtain ⟨k, ks, h2, _⟩ := opsOf_cons h1
  exact ⟨k, ks, h2⟩
/-- The last kid of a node with a query in it. -/
theorem last_27 {ts : List Nd} {t : Nd} {f : FD} (hf : formD t.op t.n = some f) (ho : t.op = 9 ∨ t.op = 17) (hfit : fit (opsOf ts t) f.kids = true) (hr : ∀ k ∈ t.kids, 0 ≤ opA ts k.toNat ∧ opA ts k.toNat ≤ 64) : ∃ q, t.kids.getLast? = some q ∧ opA ts q.toNat = 27 := by
  have h27 : ∀ y : Int, 0 ≤ y → y ≤ 64 → hasOp (setI [27]) y = true → y = 27 := fun y h0 h1 hh => by
    have := hasOp27 ⟨y.toNat, by omega⟩
    simp only at this
    rw [show ((y.toNat : Nat) : Int) = y by omega, hh] at this
    have := of_decide_eq_true this.symm
    omega
  rcases ho with ho | ho
  · rw [ho] at hf
    obtain rfl := Option.some.inj hf
    obtain ⟨x, r, h1, _, h2⟩ := fit_one hfit
    obtain ⟨y, r2, h3, h4, h5⟩ := fit_one h2
    obtain ⟨k, ks, hk, _, hr1⟩ := opsOf_cons h1
    rw [hr1] at h3
    cases ks with
    | nil => cases h3
    | cons k2 ks2 =>
      simp at h3
      have hn := fit_nil h5
      rw [hn] at h3
      have : ks2 = [] := by simpa using h3.2
      subst this
      refine ⟨k2, by rw [hk]; rfl, ?_⟩
      obtain ⟨a, b⟩ := hr k2 (by rw [hk]; simp)
      rw [h3.1] at a b ⊢
      exact h27 y a b h4
  · rw [ho] at hf
    obtain rfl := Option.some.inj hf
    obtain ⟨x, r, h1, h4, h2⟩ := fit_one hfit
    obtain ⟨k, ks, hk, hx, hr1⟩ := opsOf_cons h1
    have hn := fit_nil h2
    rw [hn] at hr1
    have : ks = [] := by simpa using hr1.symm
    subst this
    refine ⟨k, by rw [hk]; rfl, ?_⟩
    obtain ⟨a, b⟩ := hr k (by rw [hk]; simp)
    rw [hx] at a b ⊢
    exact h27 x a b h4
end Go.Proofs.YtghdjagomdgnfaaDoor
namespace Go.Proofs.YtghdjagomdgnfaaDoor
open Go.ChangeShapes Go.WideShapes Go.ChangeAt Go.RowKit
set_option linter.unusedVariables false
set_option linter.unusedSimpArgs false
set_option maxRecDepth 100000
open K
structure Sml (t : Nd) : Prop where
  a : t.name.size ≤ 1048576
  b : t.qual.size ≤ 1048576
  c : t.vs.size ≤ 1048576
  d : t.kids.length ≤ 1048576
/-- The nodes of a tree from an address on. -/
def NAT (w : World) (g o : Nat) (ts : List Nd) : Prop := ∀ i (h : i < ts.length), ∃ kv, NodeAt w g (o + i * 10) ts[i] kv ∧ RIK w kv ts[i].kids
theorem NAT.below {w w' : World} {g o : Nat} {ts : List Nd} (h : NAT w g o ts) (hb : Below w.heap.size w w') (hg : g < w.heap.size) : NAT w' g o ts := fun i hi => by
  obtain ⟨kv, a, b⟩ := h i hi
  exact ⟨kv, a.below hb hg, b.below hb⟩
theorem kid_op {ts : List Nd} {i : Nat} (hi : i < ts.length) (hO : ordB ts = true) (hprev : ∀ j (h : j < ts.length), j < i → nodI ts ts[j] = true) : ∀ k ∈ ts[i].kids, ∃ j : Nat, k = (j : Int) ∧ j < i ∧ (opA ts j = ts[j]?.elim 0 Nd.op) ∧ 1 ≤ opA ts j ∧ opA ts j ≤ 64 := by
  intro k hk
  obtain ⟨j, rfl, hj⟩ := ordB_kids hO i hi k hk
  have hjt : j < ts.length := by omega
  obtain ⟨f, hf, _⟩ := nodI_some (hprev j hjt hj)
  have := formD_rng hf
  refine ⟨j, rfl, hj, ?_, ?_⟩
  · rw [opA_eq hjt, List.getElem?_eq_getElem hjt]; rfl
  · rw [opA_eq hjt]; omega
set_option maxHeartbeats 4000000 in
theorem nodeOK_all (ts : List Nd) (i g o cap : Nat) (ka : Option Addr) (kc : Nat) (w : World) (hi : i < ts.length) (hL : ts.length ≤ 6000) (hO : ordB ts = true) (hprev : ∀ j (h : j < ts.length), j < i → nodI ts ts[j] = true) (hS : ∀ j (h : j < ts.length), Sml ts[j])
    (hT : Tabs w) (hg : g < w.heap.size) (hN : NAT w g o ts) (hK : RIK w (.slice ka ts[i].kids.length kc) ts[i].kids) :
    Calls Tryd.prog 33 #[ndV ts[i] (.slice ka ts[i].kids.length kc), .slice (some ⟨g, o, none⟩) ts.length cap] w fun e w' => e = .returned (.bool (nodI ts ts[i])) ∧ Below w.heap.size w w' := by
  have hko := kid_op hi hO hprev
  have hRN : RNK w (.slice (some ⟨g, o, none⟩) ts.length cap) ts := ⟨_, _, rfl, fun _ => ⟨g, o, rfl, hg, hN⟩⟩
  have hNH : ∀ f : FD, f.kids.length ≤ 5 → (∀ p ∈ f.kids, 0 ≤ p.2.2 ∧ p.2.2 ≤ 9223372036854775807) → NodeH w ts ts[i] (opsOf ts ts[i]) ka kc (.slice (some ⟨g, o, none⟩) ts.length cap) f := fun f h5 hm =>
    { hl := by unfold opsOf; simp
      hn := (hS i hi).d
      hs1 := (hS i hi).a
      hs2 := (hS i hi).b
      hk := fun p hp => by
        obtain ⟨j, h1, h2, h3, h4, h5⟩ := hko _ (List.getElem_mem hp)
        have hjt : j < ts.length := by omega
        refine ⟨j, hjt, h1, ?_, ?_⟩
        · unfold opsOf
          rw [List.getElem_map, h1, ← opA_eq hjt]
          rfl
        · rw [← opA_eq hjt]; omega
      hK := hK
      hN := hRN
      hpn := by omega
      hpm := hm }
  cases hf : formD ts[i].op ts[i].n with
  | none =>
    have e : nodI ts ts[i] = false := by unfold nodI; rw [hf]
    rw [e]
    exact nodeOK_none ts ts[i] (opsOf ts ts[i]) ka kc (some ⟨g, o, none⟩) ts.length cap noForm w (hNH noForm (by simp [noForm]) (by simp [noForm])) (fun W => formOf_no ts[i] ka _ kc W hf)
  | some f =>
    obtain ⟨h5, hm⟩ := formD_ok hf
    have e : nodI ts ts[i] = (fldB f ts[i] && (fit (opsOf ts ts[i]) f.kids && choB ts ts[i])) := by unfold nodI; rw [hf]
    rw [e]
    cases hfl : fldB f ts[i] with
    | false => exact nodeOK_bad ts ts[i] (opsOf ts ts[i]) ka kc (some ⟨g, o, none⟩) ts.length cap f w (hNH f h5 hm) (fun W => formOf_is ts[i] f ka _ kc W hf) hfl
    | true =>
      rw [Bool.true_and]
      refine nodeOK_good ts ts[i] (opsOf ts ts[i]) ka kc (some ⟨g, o, none⟩) ts.length cap f w (hNH f h5 hm) (fun W => formOf_is ts[i] f ka _ kc W hf) hfl (choB ts ts[i]) (fun hfit W hW => ?_)
      by_cases o1 : ts[i].op = 1
      · have : choB ts ts[i] = (vok ts[i].vk ts[i].vn ts[i].vs && !((ts[i].vk == 1 || ts[i].vk == 2) && decide (ts[i].vn < 0))) := by unfold choB; rw [if_pos o1]
        rw [this]
        exact ch_1 ts[i] _ _ ka _ kc W rfl o1 (hS i hi).c (tabs_below hT hW)
      by_cases o5 : ts[i].op = 5
      · have : choB ts ts[i] = (ts[i].n != 13) := by unfold choB; rw [if_neg o1, if_pos o5]
        rw [this]
        exact ch_5 ts[i] _ ka _ kc W o5
      by_cases o12 : ts[i].op = 12
      · have : choB ts ts[i] = (decide (2 ≤ (ts[i].kids.length : Int) - ts[i].m - ts[i].n) && ((ts[i].kids.length : Int) - ts[i].m - ts[i].n) % 2 == 0) := by unfold choB; rw [if_neg o1, if_neg o5, if_pos o12]
        rw [this]
        rw [o12] at hf
        obtain rfl := Option.some.inj hf
        unfold fldB at hfl
        simp at hfl
        exact ch_12 ts[i] _ ka _ kc W o12 (by omega) (by omega) (by omega) (by omega) (hS i hi).d
      by_cases o30 : ts[i].op = 30
      · have : choB ts ts[i] = (ts[i].n != -1 || ts[i].m != -1) := by unfold choB; rw [if_neg o1, if_neg o5, if_neg o12, if_pos o30]
        rw [this]
        exact ch_30 ts[i] _ ka _ kc W o30
      by_cases oq : ts[i].op = 9 ∨ ts[i].op = 17
      · obtain ⟨q, hq, hq27⟩ := last_27 hf oq hfit (fun k hk => by
          obtain ⟨j, rfl, _, _, h4, h5⟩ := hko k hk
          exact ⟨by simpa using (by omega : 0 ≤ opA ts j), by simpa using h5⟩)
        have hqm : q ∈ ts[i].kids := List.mem_of_getLast? hq
        obtain ⟨j, rfl, hj, _⟩ := hko q hqm
        have hjt : j < ts.length := by omega
        have : choB ts ts[i] = begB ts j := by unfold choB; rw [if_neg o1, if_neg o5, if_neg o12, if_neg o30, if_pos oq, hq]; rfl
        rw [this]
        have hlen : 0 < ts[i].kids.length := List.length_pos_of_mem hqm
        obtain ⟨a', c', he, _, hcells⟩ := hK
        simp only [Value.slice.injEq] at he
        obtain ⟨rfl, _, rfl⟩ := he
        obtain ⟨kg, ko, rfl, hkg, hkc⟩ := hcells hlen
        refine ch_q ts ts[i] j g o cap kg ko kc W oq hlen (hS i hi).d (Nat.lt_of_lt_of_le hkg hW.size) ?_ hL hjt (Nat.lt_of_lt_of_le hg hW.size) (fun p hp => let ⟨kv, a, b⟩ := hN p hp; ⟨kv, a.below hW hg, (b.below hW).ri⟩) ?_
        · rw [hW.cell (p := ⟨kg, ko + (ts[i].kids.length - 1), none⟩) hkg, hkc _ (by omega)]
          have := List.getLast?_eq_getElem? (l := ts[i].kids)
          rw [hq, List.getElem?_eq_getElem (by omega)] at this
          rw [← Option.some.inj this]
        · intro p hp hpj hpo
          have hv : nodI ts ts[p] = true := hprev p hp (by omega)
          have hop : ts[p].op = 26 ∨ ts[p].op = 27 := by
            rcases hpo with h | h
            · exact .inl h
            · subst h
              right
              rw [← opA_eq hp]
              simpa using hq27
          obtain ⟨k, ks, hk⟩ := kids_26 hv hop
          obtain ⟨j2, hj2, hj3⟩ := ordB_kids hO p hp k (by rw [hk]; simp)
          exact ⟨j2, by rw [hk, hj2]; rfl, hj3⟩
      · have : choB ts ts[i] = true := by unfold choB; rw [if_neg o1, if_neg o5, if_neg o12, if_neg o30, if_neg oq]
        rw [this]
        exact ch_o ts[i] _ ka _ kc W (by simpa using o1) (by simpa using o5) (by simpa using o12) (by simpa using o30) (by simpa using fun h => oq (.inl h)) (by simpa using fun h => oq (.inr h))
end Go.Proofs.YtghdjagomdgnfaaDoor
namespace Go.Proofs.YtghdjagomdgnfaaDoor
open Go.ChangeShapes Go.WideShapes Go.ChangeAt Go.RowKit
set_option linter.unusedVariables false
set_option linter.unusedSimpArgs false
set_option maxRecDepth 100000
open K
def treeI (ts : List Nd) : Bool := (decide (1 ≤ (ts.length : Int)) && decide ((ts.length : Int) ≤ 6000)) && isStm (opA ts (ts.length - 1)) && ordB ts && ts.all (nodI ts) && (firstI (depths ts) == -1)
theorem all_take {ts : List Nd} {k : Nat} (h : ∀ j (hj : j < ts.length), j < k → nodI ts ts[j] = true) (hk : k = ts.length) : ts.all (nodI ts) = true := by
  rw [List.all_eq_true]
  intro x hx
  obtain ⟨j, hj, rfl⟩ := List.getElem_of_mem hx
  exact h j hj (by omega)
set_option maxHeartbeats 8000000 in
theorem treeOK_impl (ts : List Nd) (na : Option Addr) (cap : Nat) (w : World) (hn : ts.length ≤ 1048576) (hS : ∀ j (h : j < ts.length), Sml ts[j]) (hT : Tabs w) (hR : RNK w (.slice na ts.length cap) ts) :
    Calls Tryd.prog 13 #[.agg #[.slice na ts.length cap]] w fun e w' => e = .returned (.bool (treeI ts)) ∧ Below w.heap.size w w' := by
  have bw0 := below_alloc w (.cells #[.slice na ts.length cap] 31)
  cases hr : (decide (1 ≤ (ts.length : Int)) && decide ((ts.length : Int) ≤ 6000))
  · have HE : Hid (treeI ts = false) := (by unfold treeI; rw [hr]; rfl : treeI ts = false)
    clear hR
    go_enter Tryd.func13, Tryd.ntmps13
    go_wp2_with (go_at_call 29; fail)
    refine (within_any _ _ _ _).mono ?_
    rintro e w1 ⟨rfl, rfl⟩
    rw [hr]
    go_wp2
    go_ret
    exact ⟨ret_b HE.out.symm, bw0⟩
  · have hb := hr
    simp at hb
    obtain ⟨a', c', he, hcells⟩ := hR
    simp only [Value.slice.injEq] at he
    obtain ⟨rfl, _, rfl⟩ := he
    obtain ⟨g, o, rfl, hg, hN⟩ := hcells (by omega)
    have hlast : ts.length - 1 < ts.length := by omega
    have hw1 : IntKind.i64.wrap ((ts.length : Int) - 1) = ((ts.length - 1 : Nat) : Int) := by simp only [IntKind.wrap_i64, wrap64]; omega
    have hli : ((ts.length - 1 : Nat) : Int) < ts.length := by omega
    obtain ⟨kvl, hNl, _⟩ := hN _ hlast
    have cl := (bw0.cell (p := ⟨g, o + (ts.length - 1) * 10, none⟩) hg).trans hNl.c0
    rw [← opA_eq hlast] at cl
    have hst := fun W => isStm_impl (opA ts (ts.length - 1)) W
    have hB : (w.alloc (.cells #[.slice (some ⟨g, o, none⟩) ts.length cap] 31)).cell? ⟨w.heap.size, 0, none⟩ = some (.slice (some ⟨g, o, none⟩) ts.length cap) := by simp
    have hord := order_any ts g o cap w.heap.size (w.alloc (.cells #[.slice (some ⟨g, o, none⟩) ts.length cap] 31)) (by omega) hB (by simp) (by simp; omega) (fun i h => (hS i h).d) (NAT.below (ts := ts) (fun i h => hN i h) bw0 hg)
    cases hs : isStm (opA ts (ts.length - 1))
    · have HE : Hid (treeI ts = false) := (by unfold treeI; rw [hr, hs]; rfl : treeI ts = false)
      rw [hs] at hst
      clear hord hN hcells hNl hS
      generalize ts.length - 1 = lst at *
      go_enter Tryd.func13, Tryd.ntmps13
      go_wp2_with (go_at_call 29; fail)
      refine (within_any _ _ _ _).mono ?_
      rintro e w1 ⟨rfl, rfl⟩
      rw [hr]
      go_wp2_with (go_at_call 30; fail)
      refine (hst _).mono ?_
      rintro e w1 ⟨rfl, rfl⟩
      go_wp2
      go_ret
      exact ⟨ret_b HE.out.symm, bw0⟩
    · rw [hs] at hst
      have HT1 : Hid (treeI ts = (ordB ts && ts.all (nodI ts) && (firstI (depths ts) == -1))) := (by unfold treeI; rw [hr, hs]; simp : treeI ts = (ordB ts && ts.all (nodI ts) && (firstI (depths ts) == -1)))
      have HN : Hid (NAT w g o ts) := fun i h => hN i h
      clear hcells hNl hN
      cases hO : ordB ts
      · rw [hO] at hord HT1
        generalize ts.length - 1 = lst at *
        go_enter Tryd.func13, Tryd.ntmps13
        go_wp2_with (go_at_call 29; fail)
        refine (within_any _ _ _ _).mono ?_
        rintro e w1 ⟨rfl, rfl⟩
        rw [hr]
        go_wp2_with (go_at_call 30; fail)
        refine (hst _).mono ?_
        rintro e w1 ⟨rfl, rfl⟩
        go_wp2_with (go_at_call 31; fail)
        refine hord.mono ?_
        rintro e w2 ⟨rfl, hb2⟩
        have bw2 : Below w.heap.size w w2 := bw0.trans (hb2.mono (by simp))
        clear hb2
        go_wp2
        go_ret
        exact ⟨ret_b HT1.out.symm, bw2⟩
      · rw [hO] at hord HT1
        have hlen : ts.length ≤ 6000 := by omega
        generalize ts.length - 1 = lst at *
        go_enter Tryd.func13, Tryd.ntmps13
        go_wp2_with (go_at_call 29; fail)
        refine (within_any _ _ _ _).mono ?_
        rintro e w1 ⟨rfl, rfl⟩
        rw [hr]
        go_wp2_with (go_at_call 30; fail)
        refine (hst _).mono ?_
        rintro e w1 ⟨rfl, rfl⟩
        go_wp2_with (go_at_call 31; fail)
        refine hord.mono ?_
        rintro e w2 ⟨rfl, hb2⟩
        have bw2 : Below w.heap.size w w2 := bw0.trans (hb2.mono (by simp))
        have hz2 : w.heap.size < w2.heap.size := by have := hb2.size; simp at this; omega
        have hB2 : w2.cell? ⟨w.heap.size, 0, none⟩ = some (.slice (some ⟨g, o, none⟩) ts.length cap) := (hb2.cell (p := ⟨w.heap.size, 0, none⟩) (by simp)).trans hB
        clear hb2 hord hst cl hB
        go_wp2
        go_loopw [32] (fun iv wr => ∃ k : Nat, k ≤ ts.length ∧ iv = .int .i64 k ∧ Hid (∀ j (h : j < ts.length), j < k → nodI ts ts[j] = true) ∧ wr.cell? ⟨w.heap.size, 0, none⟩ = some (.slice (some ⟨g, o, none⟩) ts.length cap) ∧ w.heap.size < wr.heap.size ∧ Below w.heap.size w wr) (fun iv _ => ts.length - (intOf iv).toNat)
        case atStart => exact ⟨0, Nat.zero_le _, rfl, (fun j h hj => by omega : ∀ j (h : j < ts.length), j < 0 → nodI ts ts[j] = true), hB2, hz2, bw2⟩
        case round =>
          obtain ⟨k, hk, rfl, HP, hBr, hzr, hbel⟩ := hrel
          have hbs := hbel.size
          by_cases hlt : k < ts.length
          · have hlti : (k : Int) < ts.length := by omega
            obtain ⟨kv, hNA, hRK⟩ := HN.out k hlt
            obtain ⟨c0, c1, c2, c3, c4, c5, c6, c7, c8, c9⟩ := hNA.below hbel hg
            have hRK0 := hRK
            obtain ⟨ka, kc, rfl, hkcp, _⟩ := hRK
            have hcn := fun W (h : Below w.heap.size w W) => nodeOK_all ts k g o cap ka kc W hlt hlen hO HP.out hS (tabs_below hT h) (Nat.lt_of_lt_of_le hg h.size) (HN.out.below h hg) (hRK0.below h)
            have HY : Hid (nodI ts ts[k] = true → ∀ j (h : j < ts.length), j < k + 1 → nodI ts ts[j] = true) := (fun hv j h hj => by
              by_cases e : j = k
              · subst e; exact hv
              · exact HP.out j h (by omega) : nodI ts ts[k] = true → ∀ j (h : j < ts.length), j < k + 1 → nodI ts ts[j] = true)
            have HNo : Hid (nodI ts ts[k] = false → treeI ts = false) := (fun hv => by
              rw [HT1.out]
              have : ts.all (nodI ts) = false := by
                rw [List.all_eq_false]
                exact ⟨ts[k], List.getElem_mem hlt, by rw [hv]; simp⟩
              rw [this]; rfl : nodI ts ts[k] = false → treeI ts = false)
            clear HP hNA hRK0
            generalize nodI ts ts[k] = nd at hcn HY HNo
            generalize ts[k] = t at *
            obtain ⟨op, name, qual, n, m, vk, vn, vs, kids, pos⟩ := t
            simp only [ndV] at *
            have bw3 := hbel.alloc hbs (.cells #[.int .i64 op, .string name, .string qual, .int .i64 n, .int .i64 m, .int .i64 vk, .int .i64 vn, .string vs, .slice ka kids.length kc, .int .i64 pos] 46)
            have hc3 := hcn _ bw3
            clear hcn
            cases nd
            · have HE := HNo.out rfl
              go_wp2_with (go_at_call 33; fail)
              refine hc3.mono ?_
              rintro e w4 ⟨rfl, hb4⟩
              have bw4 : Below w.heap.size w w4 := bw3.trans (hb4.mono bw3.size)
              clear hb4 hc3
              go_wp2
              go_ret
              exact ⟨ret_b HE.symm, bw4⟩
            · have HY2 : Hid (∀ j (h : j < ts.length), j < k + 1 → nodI ts ts[j] = true) := HY.out rfl
              go_wp2_with (go_at_call 33; fail)
              refine hc3.mono ?_
              rintro e w4 ⟨rfl, hb4⟩
              have bw4 : Below w.heap.size w w4 := bw3.trans (hb4.mono bw3.size)
              have hz4 : w.heap.size < w4.heap.size := by have := hb4.size; simp at this; omega
              have hB4 : w4.cell? ⟨w.heap.size, 0, none⟩ = some (.slice (some ⟨g, o, none⟩) ts.length cap) := (hb4.cell (p := ⟨w.heap.size, 0, none⟩) (by simp; omega)).trans (((below_alloc wr _).cell (p := ⟨w.heap.size, 0, none⟩) hzr).trans hBr)
              clear hb4 hc3 HY HNo
              go_wp2
              go_roundw
              case rel => exact ⟨k + 1, by omega, by go_num, HY2, hB4, hz4, bw4⟩
              case measure => simp [intOf]; omega
          · have hkn : k = ts.length := by omega
            subst hkn
            have hlti : ¬ (ts.length : Int) < ts.length := by omega
            have HE : Hid (treeI ts = (firstI (depths ts) == -1)) := (by rw [HT1.out, all_take HP.out rfl]; simp : treeI ts = (firstI (depths ts) == -1))
            have hfd := depths_34 ts (.slice (some ⟨g, o, none⟩) ts.length cap) wr hlen (fun i h => ⟨(hS i h).d, ordB_kids hO i h⟩) ⟨_, _, rfl, fun _ => ⟨g, o, rfl, Nat.lt_of_lt_of_le hg hbs, fun i h => let ⟨kv, a, b⟩ := HN.out.below hbel hg i h; ⟨kv, a, b.ri⟩⟩⟩
            generalize firstI (depths ts) = fd at *
            go_wp2_with (go_at_call 34; fail)
            refine hfd.mono ?_
            rintro e w4 ⟨rfl, hb4⟩
            have bw4 : Below w.heap.size w w4 := hbel.trans (hb4.mono hbs)
            clear hb4 hfd
            go_wp2
            go_ret
            exact ⟨ret_b (by rw [HE.out]), bw4⟩
end Go.Proofs.YtghdjagomdgnfaaDoor
