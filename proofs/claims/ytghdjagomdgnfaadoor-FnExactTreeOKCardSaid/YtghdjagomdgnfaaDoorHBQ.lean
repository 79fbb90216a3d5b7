import Derived.Test.YtghdjagomdgnfaaDoorHAS
import Derived.Test.YtghdjagomdgnfaaDoorHBJ
namespace Go.Proofs.YtghdjagomdgnfaaDoor
open Go.ChangeShapes Go.WideShapes Go.ChangeAt Go.RowKit
set_option linter.unusedVariables false
set_option linter.unusedSimpArgs false
set_option maxRecDepth 100000
open K
/-- Where what is in no node yet ends. -/
def nxt (st : List Int) : Int := match st.getLast? with
  | none => 0
  | some r => r + 1
theorem nxt_nil : nxt [] = 0 := rfl
theorem nxt_app (l : List Int) (x : Int) : nxt (l ++ [x]) = x + 1 := by unfold nxt; simp
/-- What the list of starts says of the nodes that are in no node yet. -/
structure Chn (S st : List Int) (i : Nat) : Prop where
  lt : ∀ x ∈ st, 0 ≤ x ∧ x < i
  ch : ∀ p (h : p < st.length), S[(st[p]).toNat]? = some (nxt (st.take p))
  nx : nxt st = i
  ln : st.length ≤ i
theorem Chn.same {S S' st : List Int} {i : Nat} (h : Chn S st i) (hs : ∀ x : Nat, x < i → S'[x]? = S[x]?) : Chn S' st i :=
  ⟨h.lt, fun p hp => by
    obtain ⟨a, b⟩ := h.lt _ (List.getElem_mem hp)
    rw [hs _ (by omega)]; exact h.ch p hp, h.nx, h.ln⟩
theorem Chn.zero (S : List Int) : Chn S [] 0 := ⟨by simp, fun p hp => by simp at hp, rfl, Nat.le_refl _⟩
theorem Chn.step {S st : List Int} {i r : Nat} (h : Chn S st i) (hr : r ≤ st.length) (hi : S[i]? = some (nxt (st.take r))) : Chn S (st.take r ++ [(i : Int)]) (i + 1) := by
  refine ⟨fun x hx => ?_, fun p hp => ?_, by rw [nxt_app]; omega, ?_⟩
  · rw [List.mem_append] at hx
    rcases hx with hx | hx
    · have := h.lt x (List.mem_of_mem_take hx); omega
    · have : x = (i : Int) := by simpa using hx
      omega
  · simp only [List.length_append, List.length_take, List.length_cons, List.length_nil] at hp
    by_cases hq : p < r
    · have e1 : (st.take r ++ [(i : Int)])[p]'(by simp; omega) = st[p]'(by omega) := by
        rw [List.getElem_append_left (by rw [List.length_take]; omega), List.getElem_take]
      rw [e1, h.ch p (by omega), List.take_append_of_le_length (by rw [List.length_take]; omega), List.take_take]
      congr 2
      rw [Nat.min_eq_left (by omega)]
    · have hp2 : p = r := by omega
      subst hp2
      have e1 : (st.take p ++ [(i : Int)])[p]'(by simp; omega) = (i : Int) := by
        rw [List.getElem_append_right (by rw [List.length_take]; omega)]
        simp
      rw [e1, List.take_append_of_le_length (by rw [List.length_take]; omega), List.take_take]
      simpa using hi
  · have := h.ln
    simp only [List.length_append, List.length_take, List.length_cons, List.length_nil]
    omega
theorem nxt_take {st : List Int} {p : Nat} (h : p < st.length) : nxt (st.take (p + 1)) = st[p] + 1 := by
  rw [List.take_succ_eq_append_getElem h, nxt_app]
theorem nxt_zero {st : List Int} {q i : Nat} {S : List Int} (hc : Chn S st i) (h : nxt (st.take q) = 0) (hq : q ≤ st.length) : q = 0 := by
  cases q with
  | zero => rfl
  | succ p =>
    rw [nxt_take (by omega)] at h
    have := (hc.lt st[p] (List.getElem_mem _)).1
    omega
/-- Kids that are not the last ones. -/
theorem kid_no {ks st : List Int} {m : Nat} (hm : m < ks.length) (hq : ks.length ≤ st.length + (m + 1)) (h : ∀ (h1 : st.length + m < st.length + ks.length) (h2 : st.length + m - ks.length < st.length), ks.length ≤ st.length + m → ks[m] = st[st.length + m - ks.length] → False) : ¬ (ks.length ≤ st.length ∧ st.drop (st.length - ks.length) = ks) := by
  rintro ⟨h1, h2⟩
  have hx : ks[m]? = st[st.length + m - ks.length]? := by
    conv => lhs; rw [← h2]
    rw [List.getElem?_drop]
    congr 1
    omega
  rw [List.getElem?_eq_getElem hm, List.getElem?_eq_getElem (by omega)] at hx
  exact h (by omega) (by omega) (by omega) (Option.some.inj hx)
theorem kid_short {ks st : List Int} (h : st.length < ks.length) : ¬ (ks.length ≤ st.length ∧ st.drop (st.length - ks.length) = ks) := fun ⟨a, _⟩ => by omega
theorem kid_yes {ks st : List Int} {m : Nat} (hm : m < ks.length) (hq : ks.length - m ≤ st.length) (hd : ks.drop (m + 1) = st.drop (st.length - (ks.length - (m + 1)))) (he : ks[m] = st[st.length + m - ks.length]'(by omega)) : ks.drop m = st.drop (st.length - (ks.length - m)) := by
  rw [List.drop_eq_getElem_cons hm, hd, he]
  rw [show st.length - (ks.length - m) = st.length + m - ks.length by omega]
  rw [List.drop_eq_getElem_cons (show st.length + m - ks.length < st.length by omega)]
  congr 2
  omega
theorem treeI_ord {ts : List Nd} {i : Nat} {st : List Int} (hi : i < ts.length) (h : ordS (ts.map Nd.kids) 0 [] = ordS ((ts.drop i).map Nd.kids) i st) (hno : ¬ (ts[i].kids.length ≤ st.length ∧ st.drop (st.length - ts[i].kids.length) = ts[i].kids)) : treeI ts = false := by
  rw [List.drop_eq_getElem_cons hi, List.map_cons, ordS_no hno] at h
  unfold treeI
  rw [ordB_none h]
  simp
theorem ord_next {ts : List Nd} {i : Nat} {st : List Int} (hi : i < ts.length) (h : ordS (ts.map Nd.kids) 0 [] = ordS ((ts.drop i).map Nd.kids) i st) (hy : ts[i].kids.length ≤ st.length ∧ st.drop (st.length - ts[i].kids.length) = ts[i].kids) : ordS (ts.map Nd.kids) 0 [] = ordS ((ts.drop (i + 1)).map Nd.kids) (i + 1) (st.take (st.length - ts[i].kids.length) ++ [(i : Int)]) := by
  rw [List.drop_eq_getElem_cons hi, List.map_cons, ordS_yes hy] at h
  exact h
theorem treeI_nod {ts : List Nd} {i : Nat} (hi : i < ts.length) (h : nodI ts ts[i] = false) : treeI ts = false := by
  have : ts.all (nodI ts) = false := by
    rw [List.all_eq_false]
    exact ⟨ts[i], List.getElem_mem hi, by rw [h]; simp⟩
  unfold treeI
  rw [this]
  simp
theorem nodI_G {ts : List Nd} {t : Nd} (h : ¬ (t.op = 9 ∨ t.op = 17)) : nodI ts t = nodG t (opsOf ts t) := by
  unfold nodI nodG
  have hl : ((opsOf ts t).length : Int) = t.kids.length := by unfold opsOf; simp
  cases formD t.op t.n with
  | none => rfl
  | some f =>
    simp only
    rw [hl]
    unfold choB choG
    rw [if_neg h]
theorem nodI_Gb {ts : List Nd} {t : Nd} (h : t.op = 9 ∨ t.op = 17) : nodI ts t = (nodG t (opsOf ts t) && begB ts ((t.kids.getLast?).getD 0).toNat) := by
  unfold nodI nodG
  cases formD t.op t.n with
  | none => rfl
  | some f =>
    simp only
    unfold choB choG
    rcases h with h | h <;> rw [h] <;> simp [Bool.and_assoc]
theorem firstI_ok {ds : List Int} (h : ∀ x ∈ ds, ¬ (100 ≤ x)) : firstI ds = -1 := by
  unfold firstI
  have : ds.any (fun x => decide (100 ≤ x)) = false := by
    rw [List.any_eq_false]
    intro x hx
    simpa using h x hx
  rw [this]; rfl
theorem firstI_bad {ds : List Int} {k : Nat} (hk : k < ds.length) (h : 100 ≤ ds[k]) : (firstI ds == -1) = false := by
  unfold firstI
  have : ds.any (fun x => decide (100 ≤ x)) = true := by
    rw [List.any_eq_true]
    exact ⟨ds[k], List.getElem_mem hk, by simpa using h⟩
  rw [this]
  simp
end Go.Proofs.YtghdjagomdgnfaaDoor
namespace Go.Proofs.YtghdjagomdgnfaaDoor
open Go.ChangeShapes Go.WideShapes Go.ChangeAt Go.RowKit
set_option linter.unusedVariables false
set_option linter.unusedSimpArgs false
set_option maxRecDepth 100000
open K
open Go.Shelf
structure NCalls : Prop where
  c22 : ∀ (t : Nd) (ops : List Int) (g o cap : Nat) (w : World), (1 ≤ t.op ∧ t.op ≤ 17) → ops.length ≤ 6000 → cap = ops.length → (∀ x ∈ ops, 0 ≤ x ∧ x ≤ 64) → RC w g o cap ops → t.name.size ≤ 1048576 → t.qual.size ≤ 1048576 → t.vs.size ≤ 1048576 → t.n ≤ 9223372036854775807 → t.m ≤ 9223372036854775807 → ∀ (ka : Option Addr) (kl kc : Nat), Calls Tryd.prog 22 #[ndV t (.slice ka kl kc), .slice (some ⟨g, o, none⟩) ops.length cap] w fun e w' => e = .returned (.bool (nodG t ops)) ∧ Below w.heap.size w w'
  c23 : ∀ (t : Nd) (ops : List Int) (g o cap : Nat) (w : World), (18 ≤ t.op ∧ t.op ≤ 33) → ops.length ≤ 6000 → cap = ops.length → (∀ x ∈ ops, 0 ≤ x ∧ x ≤ 64) → RC w g o cap ops → t.name.size ≤ 1048576 → t.qual.size ≤ 1048576 → t.vs.size ≤ 1048576 → t.n ≤ 9223372036854775807 → t.m ≤ 9223372036854775807 → ∀ (ka : Option Addr) (kl kc : Nat), Calls Tryd.prog 23 #[ndV t (.slice ka kl kc), .slice (some ⟨g, o, none⟩) ops.length cap] w fun e w' => e = .returned (.bool (nodG t ops)) ∧ Below w.heap.size w w'
  c24 : ∀ (t : Nd) (ops : List Int) (g o cap : Nat) (w : World), (¬ (1 ≤ t.op ∧ t.op ≤ 33)) → ops.length ≤ 6000 → cap = ops.length → (∀ x ∈ ops, 0 ≤ x ∧ x ≤ 64) → RC w g o cap ops → t.name.size ≤ 1048576 → t.qual.size ≤ 1048576 → t.vs.size ≤ 1048576 → t.n ≤ 9223372036854775807 → t.m ≤ 9223372036854775807 → ∀ (ka : Option Addr) (kl kc : Nat), Calls Tryd.prog 24 #[ndV t (.slice ka kl kc), .slice (some ⟨g, o, none⟩) ops.length cap] w fun e w' => e = .returned (.bool (nodG t ops)) ∧ Below w.heap.size w w'
theorem dKids_len (d : Int) : ∀ (ks ds : List Int), (dKids ds d ks).length = ds.length
  | [], ds => rfl
  | k :: ks, ds => by unfold dKids; rw [dKids_len d ks]; simp
theorem dRun_len (ts : List Nd) : ∀ (n : Nat) (ds : List Int), (dRun ts n ds).length = ds.length
  | 0, ds => rfl
  | n + 1, ds => by unfold dRun; rw [dRun_len ts n, dKids_len]
theorem depths_len (ts : List Nd) : (depths ts).length = ts.length := by unfold depths; rw [dRun_len]; simp
theorem mk_facts {wr w2 : World} {s k n : Nat} {t : Nd} {ka : Option Addr} {kc : Nat} {u : Value} (hs : s < wr.heap.size) (hg : ((wr.setCell ⟨s, k, none⟩ u).alloc (.cells #[.int .i64 t.op, .string t.name, .string t.qual, .int .i64 t.n, .int .i64 t.m, .int .i64 t.vk, .int .i64 t.vn, .string t.vs, .slice ka n kc, .int .i64 t.pos] 46)).grownBy w2 none) :
    NodeAt w2 wr.heap.size 0 t (.slice ka n kc) ∧ Below (wr.heap.size + 1) ((wr.setCell ⟨s, k, none⟩ u).alloc (.cells #[.int .i64 t.op, .string t.name, .string t.qual, .int .i64 t.n, .int .i64 t.m, .int .i64 t.vk, .int .i64 t.vn, .string t.vs, .slice ka n kc, .int .i64 t.pos] 46)) w2 := by
  have hb : Below (wr.heap.size + 1) ((wr.setCell ⟨s, k, none⟩ u).alloc (.cells #[.int .i64 t.op, .string t.name, .string t.qual, .int .i64 t.n, .int .i64 t.m, .int .i64 t.vk, .int .i64 t.vn, .string t.vs, .slice ka n kc, .int .i64 t.pos] 46)) w2 := (Below.refl _ _).grown hg (by simp) (fun k hk => by simp at hk)
  refine ⟨NodeAt.below (B := wr.heap.size + 1) ?_ hb (by omega), hb⟩
  constructor <;> simp [go_sem]
theorem row_rc {w : World} {b g n : Nat} {os : List Int} (h : w.ownsRow b 3 1 (.slice (some ⟨g, 0, none⟩) n n) n (os.map (Value.int .i64))) (hl : os.length = n) : RC w g 0 n os :=
  ⟨(h.lt _ rfl).2, by omega, fun i hi => by
    rw [Nat.zero_add]
    exact own_cell h (by rw [List.getElem?_map, List.getElem?_eq_getElem hi]; rfl)⟩
theorem map_set_ops {ts : List Nd} {ks os : List Int} {m : Nat} (hm : m < ks.length) (hl : os.length = ks.length) (h : os.drop (m + 1) = (ks.drop (m + 1)).map fun k => opA ts k.toNat) : (os.set m (opA ts (ks[m]).toNat)).drop m = (ks.drop m).map fun k => opA ts k.toNat := by
  rw [List.drop_eq_getElem_cons (show m < (os.set m (opA ts (ks[m]).toNat)).length by simp; omega), List.drop_eq_getElem_cons hm, List.map_cons]
  congr 1
  · simp
  · rw [List.drop_set_of_lt (by omega)]; exact h
theorem hid {p : Prop} (h : p) : Hid p := h
theorem mk_all {w wr w2 : World} {s k n ln : Nat} {t : Nd} {ka : Option Addr} {kc : Nat} {u : Value} {L : List Value} {xs : List Value} (hs : s < wr.heap.size) (hw : w.heap.size ≤ wr.heap.size) (hO : Hid (((wr.setCell ⟨s, k, none⟩ u).alloc (.cells #[.int .i64 t.op, .string t.name, .string t.qual, .int .i64 t.n, .int .i64 t.m, .int .i64 t.vk, .int .i64 t.vn, .string t.vs, .slice ka n kc, .int .i64 t.pos] 46)).ownsRow w.heap.size 3 1 (.slice (some ⟨s, 0, none⟩) ln ln) ln L)) (hB : Hid (Below w.heap.size w ((wr.setCell ⟨s, k, none⟩ u).alloc (.cells #[.int .i64 t.op, .string t.name, .string t.qual, .int .i64 t.n, .int .i64 t.m, .int .i64 t.vk, .int .i64 t.vn, .string t.vs, .slice ka n kc, .int .i64 t.pos] 46)))) (ho : w2.ownsRow w.heap.size 3 1 (.slice (some ⟨((wr.setCell ⟨s, k, none⟩ u).alloc (.cells #[.int .i64 t.op, .string t.name, .string t.qual, .int .i64 t.n, .int .i64 t.m, .int .i64 t.vk, .int .i64 t.vn, .string t.vs, .slice ka n kc, .int .i64 t.pos] 46)).heap.size, 0, none⟩) n n) n xs) (hg : ((wr.setCell ⟨s, k, none⟩ u).alloc (.cells #[.int .i64 t.op, .string t.name, .string t.qual, .int .i64 t.n, .int .i64 t.m, .int .i64 t.vk, .int .i64 t.vn, .string t.vs, .slice ka n kc, .int .i64 t.pos] 46)).grownBy w2 none) :
    NodeAt w2 wr.heap.size 0 t (.slice ka n kc) ∧ Hid (w2.ownsRow w.heap.size 3 1 (.slice (some ⟨s, 0, none⟩) ln ln) ln L) ∧ Hid (Below w.heap.size w w2) ∧ Hid (w2.ownsRow w.heap.size 3 1 (.slice (some ⟨wr.heap.size + 1, 0, none⟩) n n) n xs) := by
  obtain ⟨h1, h2⟩ := mk_facts hs hg
  have hz : ((wr.setCell ⟨s, k, none⟩ u).alloc (.cells #[.int .i64 t.op, .string t.name, .string t.qual, .int .i64 t.n, .int .i64 t.m, .int .i64 t.vk, .int .i64 t.vn, .string t.vs, .slice ka n kc, .int .i64 t.pos] 46)).heap.size = wr.heap.size + 1 := by simp
  refine ⟨h1, own_below hO.out (by rw [hz]; exact h2), hB.out.trans (h2.mono (by omega)), ?_⟩
  rw [hz] at ho
  exact ho
theorem nxt_bnd {S st : List Int} {i : Nat} (h : Chn S st i) (q : Nat) : 0 ≤ nxt (st.take q) ∧ nxt (st.take q) ≤ i := by
  by_cases hq : q ≤ st.length
  · cases q with
    | zero => rw [List.take_zero, nxt_nil]; omega
    | succ p =>
      rw [nxt_take (by omega)]
      have := h.lt st[p] (List.getElem_mem _)
      omega
  · rw [List.take_of_length_le (by omega), h.nx]; omega
/-- The kid that must stand at j. -/
theorem kid_at {S st ks : List Int} {i n j : Nat} {c x : Int} (h : Chn S st i) (hn : ks.length = n) (hj : j < n) (hq : n - (j + 1) ≤ st.length) (hc : nxt (st.take (st.length - (n - (j + 1)))) = c) (hx : ks[j]? = some x) (h0 : ¬ c = 0) (hxc : x = c - 1) (hd : ks.drop (j + 1) = st.drop (st.length - (n - (j + 1)))) :
    ∃ y : Nat, x = (y : Int) ∧ y < i ∧ n - j ≤ st.length ∧ S[y]? = some (nxt (st.take (st.length - (n - j)))) ∧ ks.drop j = st.drop (st.length - (n - j)) := by
  subst hn
  have hp : st.length - (ks.length - (j + 1)) ≠ 0 := fun e => by rw [e, List.take_zero, nxt_nil] at hc; omega
  obtain ⟨p, hpe⟩ : ∃ p, st.length - (ks.length - (j + 1)) = p + 1 := ⟨_, (Nat.succ_pred_eq_of_ne_zero hp).symm⟩
  have hpl : p < st.length := by omega
  rw [hpe, nxt_take hpl] at hc
  obtain ⟨a, b⟩ := h.lt st[p] (List.getElem_mem _)
  have hxs : x = st[p] := by omega
  have hks : ks[j] = x := by rw [List.getElem?_eq_getElem hj] at hx; exact Option.some.inj hx
  have hpe2 : st.length - (ks.length - j) = p := by omega
  refine ⟨x.toNat, by omega, by omega, by omega, ?_, ?_⟩
  · rw [hpe2, hxs]; exact h.ch p hpl
  · refine kid_yes hj (by omega) hd ?_
    rw [hks, hxs]
    congr 1
    omega
theorem kid_zero {S st ks : List Int} {i n j : Nat} {c : Int} (h : Chn S st i) (hn : ks.length = n) (hj : j < n) (hq : n - (j + 1) ≤ st.length) (hc : nxt (st.take (st.length - (n - (j + 1)))) = c) (h0 : c = 0) : ¬ (ks.length ≤ st.length ∧ st.drop (st.length - ks.length) = ks) := by
  have := nxt_zero h (hc.trans h0) (by omega)
  exact kid_short (by omega)
theorem kid_other {S st ks : List Int} {i n j : Nat} {c x : Int} (h : Chn S st i) (hn : ks.length = n) (hj : j < n) (hq : n - (j + 1) ≤ st.length) (hc : nxt (st.take (st.length - (n - (j + 1)))) = c) (hx : ks[j]? = some x) (h0 : ¬ c = 0) (hxc : ¬ x = c - 1) : ¬ (ks.length ≤ st.length ∧ st.drop (st.length - ks.length) = ks) := by
  subst hn
  refine kid_no hj (by omega) fun h1 h2 h3 h4 => ?_
  have hpe : st.length - (ks.length - (j + 1)) = (st.length + j - ks.length) + 1 := by omega
  rw [hpe, nxt_take h2] at hc
  have hks : ks[j] = x := by rw [List.getElem?_eq_getElem hj] at hx; exact Option.some.inj hx
  omega
theorem kids_of {S st ks : List Int} {k : Nat} (h : Chn S st k) (hy : ks.length ≤ st.length ∧ st.drop (st.length - ks.length) = ks) : ∀ x ∈ ks, ∃ y : Nat, x = (y : Int) ∧ y < k := by
  intro x hx
  have hm : x ∈ st := by rw [← hy.2] at hx; exact List.mem_of_mem_drop hx
  obtain ⟨a, b⟩ := h.lt x hm
  exact ⟨x.toNat, by omega, by omega⟩
theorem kids_last {S st ks : List Int} {k : Nat} (h : Chn S st k) (hy : ks.length ≤ st.length ∧ st.drop (st.length - ks.length) = ks) : ks ≠ [] → ks.getLast? = some ((k : Int) - 1) := by
  intro hne
  have h1 : ks.getLast? = st.getLast? := by
    conv => lhs; rw [← hy.2]
    rw [List.getLast?_drop, if_neg]
    have : 0 < ks.length := List.length_pos_iff.2 hne
    omega
  have hn := h.nx
  unfold nxt at hn
  rw [h1]
  cases hl : st.getLast? with
  | none =>
    rw [h1.symm] at hl
    rw [List.getLast?_eq_none_iff] at hl
    exact absurd hl hne
  | some r =>
    rw [hl] at hn
    simp only at hn
    congr 1
    omega
theorem ops_rng {ts : List Nd} {ks : List Int} {k : Nat} (hk : k ≤ ts.length) (hP : ∀ j (h : j < ts.length), j < k → nodI ts ts[j] = true ∧ ∀ x ∈ ts[j].kids, ∃ y : Nat, x = (y : Int) ∧ y < j) (hks : ∀ x ∈ ks, ∃ y : Nat, x = (y : Int) ∧ y < k) : ∀ x ∈ ks.map (fun x => opA ts x.toNat), 0 ≤ x ∧ x ≤ 64 := by
  intro z hz
  obtain ⟨x, hx, rfl⟩ := List.mem_map.1 hz
  obtain ⟨y, rfl, hy⟩ := hks x hx
  have hyt : y < ts.length := by omega
  obtain ⟨f, hf, _⟩ := nodI_some (hP y hyt hy).1
  have := formD_rng hf
  simp only [Int.toNat_natCast]
  rw [opA_eq hyt]
  omega
theorem next_P {ts : List Nd} {k : Nat} {t : Nd} (hlt : k < ts.length) (hT : ts[k] = t) (hP : ∀ j (h : j < ts.length), j < k → nodI ts ts[j] = true ∧ ∀ x ∈ ts[j].kids, ∃ y : Nat, x = (y : Int) ∧ y < j) (hv : nodI ts t = true) (hks : ∀ x ∈ t.kids, ∃ y : Nat, x = (y : Int) ∧ y < k) : ∀ j (h : j < ts.length), j < k + 1 → nodI ts ts[j] = true ∧ ∀ x ∈ ts[j].kids, ∃ y : Nat, x = (y : Int) ∧ y < j := by
  intro j h hj
  by_cases e : j = k
  · subst e
    rw [hT]
    exact ⟨hv, hks⟩
  · exact hP j h (by omega)
theorem beg_fact {ts : List Nd} {k : Nat} {t : Nd} {os : List Int} (hT : ts[k]? = some t) (hlt : k < ts.length) (hP : ∀ j (h : j < ts.length), j < k → nodI ts ts[j] = true ∧ ∀ x ∈ ts[j].kids, ∃ y : Nat, x = (y : Int) ∧ y < j) (hoe : os = opsOf ts t) (hr : ∀ x ∈ os, 0 ≤ x ∧ x ≤ 64) (hnd : nodG t os = true) (h9 : t.op = 9 ∨ t.op = 17) (hlk : t.kids ≠ [] → t.kids.getLast? = some ((k : Int) - 1)) :
    1 ≤ k ∧ nodI ts t = begB ts (k - 1) ∧ ∀ i (h : i < ts.length), i ≤ k - 1 → (ts[i].op = 26 ∨ i = k - 1) → ∃ j : Nat, ts[i].kids.head? = some (j : Int) ∧ j < i := by
  have hf : ∃ f, formD t.op t.n = some f ∧ fit (opsOf ts t) f.kids = true := by
    unfold nodG at hnd
    split at hnd
    · cases hnd
    · rename_i f he
      simp only [Bool.and_eq_true] at hnd
      exact ⟨f, he, by rw [← hoe]; exact hnd.2.1⟩
  obtain ⟨f, hf, hfit⟩ := hf
  obtain ⟨q, hq1, hq2⟩ := last_27 hf h9 hfit (fun x hx => hr _ (by rw [hoe]; unfold opsOf; exact List.mem_map.2 ⟨x, hx, rfl⟩))
  have hne : t.kids ≠ [] := fun e => by rw [e] at hq1; cases hq1
  have hqk : q = (k : Int) - 1 := by have := hlk hne; rw [hq1] at this; exact Option.some.inj this
  have hq0 : opA ts (k - 1) = 27 := by rw [hqk, show ((k : Int) - 1).toNat = k - 1 by omega] at hq2; exact hq2
  have hk1 : 1 ≤ k := by
    cases k with
    | zero =>
      exfalso
      unfold opsOf at hoe
      have : t.op = opA ts 0 := by rw [opA_eq hlt]; rw [List.getElem?_eq_getElem hlt] at hT; rw [Option.some.inj hT]
      simp at hq0
      omega
    | succ n => omega
  refine ⟨hk1, ?_, fun i hi hik ho => ?_⟩
  · rw [nodI_Gb h9, ← hoe, hnd, hq1, hqk]
    simp
  · obtain ⟨hn, hx⟩ := hP i hi (by omega)
    have ho2 : ts[i].op = 26 ∨ ts[i].op = 27 := by
      rcases ho with h | h
      · exact .inl h
      · subst h
        rw [opA_eq hi] at hq0
        exact .inr hq0
    obtain ⟨x, xs, he⟩ := kids_26 hn ho2
    obtain ⟨y, rfl, hy⟩ := hx x (by rw [he]; simp)
    exact ⟨y, by rw [he]; rfl, hy⟩
theorem nodI_no {ts : List Nd} {t : Nd} {os : List Int} (he : os = opsOf ts t) (h : nodG t os = false) : nodI ts t = false := by
  rw [he] at h
  by_cases h9 : t.op = 9 ∨ t.op = 17
  · rw [nodI_Gb h9, h]; rfl
  · rw [nodI_G h9, h]
theorem last_fact {S st : List Int} {n : Nat} (h : Chn S st n) (hn : 1 ≤ n) : ∃ l, st = l ++ [((n : Int) - 1)] ∧ S[n - 1]? = some (nxt l) := by
  have hx := h.nx
  have hne : st ≠ [] := fun e => by rw [e, nxt_nil] at hx; omega
  have he := List.dropLast_concat_getLast hne
  have hl : st.getLast hne + 1 = n := by rw [← he, nxt_app] at hx; exact hx
  refine ⟨st.dropLast, by rw [← show st.getLast hne = (n : Int) - 1 by omega]; exact he.symm, ?_⟩
  have hpl : st.length - 1 < st.length := by have := List.length_pos_iff.2 hne; omega
  have hc := h.ch (st.length - 1) hpl
  rw [← List.getLast_eq_getElem hne, show (st.getLast hne).toNat = n - 1 by omega, ← List.dropLast_eq_take] at hc
  exact hc
theorem last_zero {S st l : List Int} {n : Nat} (h : Chn S st n) (he : st = l ++ [((n : Int) - 1)]) (hz : nxt l = 0) : ((st.length : Int) = 1) := by
  have : l.length = 0 := nxt_zero (q := l.length) h (by rw [he, List.take_left]; exact hz) (by rw [he]; simp)
  rw [he]
  simp
  omega
theorem last_other {st l : List Int} {n : Nat} (he : st = l ++ [((n : Int) - 1)]) (hz : ¬ nxt l = 0) : decide ((st.length : Int) = 1) = false := by
  have : l ≠ [] := fun e => hz (by rw [e]; rfl)
  have := List.length_pos_iff.2 this
  rw [he]
  simp
  omega
end Go.Proofs.YtghdjagomdgnfaaDoor
