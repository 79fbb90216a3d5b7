import Derived.Test.YtblkgicbimflhaaGreatSAC
import Derived.Deep.RegionLawGrows
import Derived.Lib.AppendZeros
namespace Go.Proofs.YtblkgicbimflhaaGreat
open Go.ChangeShapes Go.WideShapes Go.ChangeAt Go.RowKit
set_option linter.unusedVariables false
set_option linter.unusedSimpArgs false
set_option maxRecDepth 100000
set_option maxHeartbeats 16000000
theorem run_append_rs {P : Program} {α : Type} {C : Nat -> World -> List Value -> α -> Prop} {size : Nat} (hC : Lies size C) (h1C : ∀ {B w cs x}, C B w cs x -> ∀ u ∈ cs, u.oneCell' = true) (w : World) (base : Nat) (t ty e : TypeId) (i : TypeInfo) (z : Value) (bytes : Nat) (ht : P.underlying t = some (.slice e)) (hi : P.info? e = some i) (hz : i.zero = some z) (hsize : i.size = size) (hby : i.bytes = bytes) (hzs : z.cells.size = size) (hsz : 0 < size)
 (v : Value) (n : Nat) (xs : List Value) (hown : w.ownsRow base e size v n xs) (ad : Option Addr) (c : Nat) (us : List α) (hrs : RS size C 0 w (.slice ad us.length c) us) (h63 : n + us.length <= maxLen) (hb : (n + us.length) * bytes <= 140737488355328) (hbase : base <= w.heap.size) :
 ∃ news v' w', Fill size C 0 us us.length news w /\ (Builtin.append_ #[t, t] ty #[v, .slice ad us.length c]).run P w = .ok v' w' /\ w'.ownsRow base e size v' (n + us.length) (xs ++ news) /\ w.grownBy w' v.ownBlock /\ (v'.ownBlock = v.ownBlock \/ v'.ownBlock = some w.heap.size) /\ (v' = .slice none 0 0 ↔ v = .slice none 0 0 /\ us.length = 0) := by
 rcases Nat.eq_zero_or_pos us.length with h0 | hp
 .have hus : us = [] := List.length_eq_zero_iff.1 h0
  subst hus
  have hr : (Builtin.append_ #[t, t] ty #[v, .slice ad ([] : List α).length c]).run P w = .ok v w := by
   have hsz2 : ∀ W, (Go.sizeOf e).run P W = .ok i.size W := fun W => by simp [Go.sizeOf, typeInfo, hi]
   obtain ⟨_, h2⟩ := hown
   rcases h2 with ⟨rfl, rfl⟩ | ⟨g, cap, cur, rfl, _, _, hnc, _⟩
   .cases ad with
    | none => simp [Builtin.append_, run_underlying ht, hsz2, Builtin.lenOf, Builtin.firstCells]
    | some a => simp [Builtin.append_, run_underlying ht, hsz2, Builtin.lenOf, Builtin.firstCells, loadCells, loadCellsFrom]
   .cases ad with
    | none => simp [Builtin.append_, run_underlying ht, hsz2, Builtin.lenOf, Builtin.firstCells, hnc, storeCells]
    | some a => simp [Builtin.append_, run_underlying ht, hsz2, Builtin.lenOf, Builtin.firstCells, hnc, loadCells, loadCellsFrom, storeCells]
  refine ⟨[], v, w, fill_nil _ _ _ _, hr, by simpa using hown, ⟨rfl, rfl, rfl, Nat.le_refl _, fun _ _ _ => rfl⟩, .inl rfl, by simp⟩
 .obtain ⟨g, o, rfl⟩ : ∃ g o, ad = some ⟨g, o, none⟩ := by
   obtain ⟨a', c', he, hh⟩ := hrs
   obtain ⟨g, o, e2, _⟩ := hh hp
   simp only [Value.slice.injEq] at he
   exact ⟨g, o, he.1.trans e2⟩
  obtain ⟨news, hf, hcells⟩ := RS.flat hC hrs
  obtain ⟨v', w', hrun, r1, r2, r3, r4⟩ := run_append_own_at (P := P) w base t ty e i z size bytes ht hi hz hsize hby hzs hsz v n xs hown ⟨g, o, none⟩ us.length c news hf.1 (fun j u hj => by rw [Addr.add_lit]; exact hcells j u hj) (hf.one h1C hC) h63 hb hbase
  exact ⟨news, v', w', hf, hrun, r1, r2, r4, r3⟩
theorem wpList_append_rs {P : Program} {α : Type} {C : Nat -> World -> List Value -> α -> Prop} {size : Nat} (hC : Lies size C) (h1C : ∀ {B w cs x}, C B w cs x -> ∀ u ∈ cs, u.oneCell' = true) (w : World) {ops : Array Oper} {rest : List Oper} {o : Oper} {a : Act} {Q : Exit -> Act -> World -> Prop} (hgd : o.guard = none) (s x : Operand) (t : TypeId)
 (ho : o.op = .call { callee := .builtin .append, args := #[s, x], argTypes := #[t, t] })
 (base : Nat) (e : TypeId) (i : TypeInfo) (z : Value) (bytes : Nat) (ht : P.underlying t = some (.slice e)) (hi : P.info? e = some i) (hz : i.zero = some z) (hsize : i.size = size) (hby : i.bytes = bytes) (hzs : z.cells.size = size) (hsz : 0 < size)
 (v : Value) (n : Nat) (xs : List Value) (hs : a.eval s = v) (hown : w.ownsRow base e size v n xs) (ad : Option Addr) (c : Nat) (us : List α) (hx : a.eval x = .slice ad us.length c) (hrs : RS size C 0 w (.slice ad us.length c) us) (h63 : n + us.length <= maxLen) (hb : (n + us.length) * bytes <= 140737488355328) (hbase : base <= w.heap.size)
 (h : ∀ news v' w', Fill size C 0 us us.length news w -> w'.ownsRow base e size v' (n + us.length) (xs ++ news) -> w.grownBy w' v.ownBlock -> (v'.ownBlock = v.ownBlock \/ v'.ownBlock = some w.heap.size) -> wpList P ops Q rest (a.put o.dst v') w') : wpList P ops Q (o :: rest) a w := by
 obtain ⟨news, v', w', hf, hrun, r1, r2, r3, r4⟩ := run_append_rs (P := P) hC h1C w base t o.type e i z bytes ht hi hz hsize hby hzs hsz v n xs hown ad c us hrs h63 hb hbase
 exact Lib.wpList_append_run w hgd s x t t ho v (.slice ad us.length c) hs hx v' w' hrun (h news v' w' hf r1 r2 r3)
theorem step_append_rs {P : Program} {α : Type} {C : Nat -> World -> List Value -> α -> Prop} {size : Nat} (hC : Lies size C) (h1C : ∀ {B w cs x}, C B w cs x -> ∀ u ∈ cs, u.oneCell' = true) {ops : Array Oper} {o : Oper} {a : Act} {w : World} {K : Act -> World -> Prop} {Q : Exit -> Act -> World -> Prop} {E : Prop}
 (hg : o.guard = none) (s x : Operand) (t : TypeId) (hop : o.op = Op.call { callee := Callee.builtin Builtin.append, args := #[s, x], argTypes := #[t, t] })
 (base : Nat) (e : TypeId) (i : TypeInfo) (z : Value) (bytes : Nat) (ht : P.underlying t = some (.slice e)) (hi : P.info? e = some i) (hz : i.zero = some z) (hsize : i.size = size) (hby : i.bytes = bytes) (hzs : z.cells.size = size) (hsz : 0 < size)
 (v : Value) (n : Nat) (xs : List Value) (hs : a.eval s = v) (hown : w.ownsRow base e size v n xs) (ad : Option Addr) (c : Nat) (us : List α) (m : Nat) (hm : us.length = m) (hx : a.eval x = .slice ad m c) (hrs : RS size C 0 w (.slice ad us.length c) us) (h63 : n + us.length <= maxLen) (hb : (n + us.length) * bytes <= 140737488355328) (hbase : base <= w.heap.size)
 (hK : ∀ news v' w', Fill size C 0 us us.length news w -> w'.ownsRow base e size v' (n + us.length) (xs ++ news) -> w.grownBy w' v.ownBlock -> (v'.ownBlock = v.ownBlock \/ v'.ownBlock = some w.heap.size) -> (v' = .slice none 0 0 ↔ v = .slice none 0 0 /\ us.length = 0) -> K (a.put o.dst v') w') :
 if Region.wanted o (yielded ops a.tmps) = true then Oper.wp P o a w K Q else E := by
 subst hm
 have hw : Region.wanted o (yielded ops a.tmps) = true := by simp [Region.wanted, hg]
 rw [if_pos hw]
 obtain ⟨news, v', w', hf, hrun, r1, r2, r3, r4⟩ := run_append_rs (P := P) hC h1C w base t o.type e i z bytes ht hi hz hsize hby hzs hsz v n xs hown ad c us hrs h63 hb hbase
 unfold Oper.wp
 simp [execOp, hop, resolve, invoke, builtin, hs, hx, hrun, Result.andThen]
 exact hK news v' w' hf r1 r2 r3 r4
def insK (out : List Int) (k : Int) : List Int :=
 if (out.dropWhile (fun x => decide (x < k))).head? = some k then out else out.takeWhile (fun x => decide (x < k)) ++ k :: out.dropWhile (fun x => decide (x < k))
theorem cut_at {out : List Int} {k : Int} : ∀ {j : Nat}, j <= out.length -> (∀ i (h : i < out.length), i < j -> out[i] < k) -> (∀ h : j < out.length, ¬ out[j] < k) -> out.takeWhile (fun x => decide (x < k)) = out.take j /\ out.dropWhile (fun x => decide (x < k)) = out.drop j := by
 induction out with
 | nil => intro j hj _ _; simp
 | cons a r ih =>
   intro j hj h1 h2
   cases j with
   | zero =>
     have hn : ¬ a < k := h2 (by simp)
     simp [List.takeWhile_cons, List.dropWhile_cons, hn]
   | succ j =>
     have ha : a < k := h1 0 (by simp) (by omega)
     have hr := ih (j := j) (by simpa using hj) (fun i hi hij => h1 (i + 1) (by simpa using hi) (by omega)) (fun h => h2 (by simpa using h))
     simp [ha, hr.1, hr.2]
theorem insK_new {out : List Int} {k : Int} {j : Nat} (hj : j <= out.length) (h1 : ∀ i (h : i < out.length), i < j -> out[i] < k) (h2 : ∀ h : j < out.length, k < out[j]) : insK out k = out.take j ++ [k] ++ out.drop j := by
 obtain ⟨e1, e2⟩ := cut_at hj h1 (fun h => by have := h2 h; omega)
 unfold insK
 rw [e1, e2]
 have : ¬ (out.drop j).head? = some k := by
  rw [List.head?_drop]
  intro e
  obtain ⟨hl, he⟩ := List.getElem?_eq_some_iff.1 e
  have := h2 hl
  omega
 rw [if_neg this]
 simp
theorem insK_there {out : List Int} {k : Int} {j : Nat} (hj : j < out.length) (h1 : ∀ i (h : i < out.length), i < j -> out[i] < k) (h2 : out[j] = k) : insK out k = out := by
 obtain ⟨e1, e2⟩ := cut_at (Nat.le_of_lt hj) h1 (fun h => by omega)
 unfold insK
 rw [e2, List.head?_drop, List.getElem?_eq_getElem hj, h2, if_pos rfl]
theorem insK_len (out : List Int) (k : Int) : (insK out k).length <= out.length + 1 := by
 unfold insK
 split
 .omega
 .rw [List.length_append, List.length_cons]
  have := congrArg List.length (List.takeWhile_append_dropWhile (p := fun x => decide (x < k)) (l := out))
  rw [List.length_append] at this
  omega
def putK (tb : Int) (out : List Int) (c : Cel) : List Int := if c.tb = tb then insK out c.ky else out
def foldK (tb : Int) (cs : List Cel) : List Int := cs.foldl (putK tb) []
theorem foldK_step {tb : Int} {cs : List Cel} {k : Nat} (h : k < cs.length) : foldK tb (cs.take (k + 1)) = putK tb (foldK tb (cs.take k)) cs[k] := by
 unfold foldK
 rw [show cs.take (k + 1) = cs.take k ++ [cs[k]] by rw [List.take_add_one, List.getElem?_eq_getElem h]; rfl, List.foldl_append]
 rfl
theorem foldK_len (tb : Int) : ∀ (cs : List Cel), (foldK tb cs).length <= cs.length := by
 intro cs
 have key : ∀ (cs : List Cel) (out : List Int), (cs.foldl (putK tb) out).length <= out.length + cs.length := by
  intro cs
  induction cs with
  | nil => intro out; simp
  | cons c r ih =>
    intro out
    rw [List.foldl_cons, List.length_cons]
    have h1 := ih (putK tb out c)
    have h2 : (putK tb out c).length <= out.length + 1 := by unfold putK; split; exact insK_len _ _; omega
    omega
 have := key cs []
 simpa [foldK] using this
def allC (cms : List Com) (own : List Cel) : List Cel := own ++ cms.flatMap (·.cs)
def keysF (cms : List Com) (own : List Cel) (tb : Int) : List Int := foldK tb (allC cms own)
theorem allC_step {cms : List Com} {own : List Cel} {k : Nat} (h : k < cms.length) : allC (cms.take (k + 1)) own = allC (cms.take k) own ++ cms[k].cs := by
 unfold allC
 rw [show cms.take (k + 1) = cms.take k ++ [cms[k]] by rw [List.take_add_one, List.getElem?_eq_getElem h]; rfl, List.flatMap_append]
 simp
theorem allC_le {cms : List Com} {own : List Cel} {k : Nat} : (allC (cms.take k) own).length <= (allC cms own).length := by
 unfold allC
 rw [List.length_append, List.length_append]
 have : (cms.flatMap (·.cs)) = ((cms.take k).flatMap (·.cs)) ++ ((cms.drop k).flatMap (·.cs)) := by rw [<- List.flatMap_append, List.take_append_drop]
 rw [this, List.length_append]
 omega
theorem infoCel : (Tryz.prog.info? 106).map (fun i => (i.zero, i.size, i.bytes)) = some (some (.agg #[.int .i64 0, .int .i64 0, .int .i64 0, .bool false]), 4, 32) := by kernel_rfl
theorem part_rs {b : Nat} {w : World} {a : Option Addr} {c : Nat} {xs : List Int} (h : RS 1 CI b w (.slice a xs.length c) xs) (j : Nat) (hj : j <= xs.length) : RS 1 CI b w (.slice a (xs.take j).length c) (xs.take j) := by
 obtain ⟨a', c', he, hh⟩ := h
 simp only [Value.slice.injEq] at he
 obtain ⟨rfl, _, rfl⟩ := he
 refine ⟨a, c, rfl, fun hp => ?_⟩
 rw [List.length_take] at hp
 obtain ⟨g, o, e2, h1, h2, h3⟩ := hh (by omega)
 refine ⟨g, o, e2, h1, h2, fun i hi => ?_⟩
 rw [List.length_take] at hi
 obtain ⟨cs, x, y⟩ := h3 i (by omega)
 exact ⟨cs, by rw [List.getElem_take]; exact x, y⟩
theorem rest_rs {b g o : Nat} {w : World} {c d : Nat} {xs : List Int} (h : RS 1 CI b w (.slice (some ⟨g, o, none⟩) xs.length c) xs) (j : Nat) (hj : j <= xs.length) : RS 1 CI b w (.slice (some ⟨g, o + j, none⟩) (xs.drop j).length d) (xs.drop j) := by
 obtain ⟨a', c', he, hh⟩ := h
 simp only [Value.slice.injEq] at he
 obtain ⟨rfl, _, rfl⟩ := he
 refine ⟨_, d, rfl, fun hp => ?_⟩
 rw [List.length_drop] at hp
 obtain ⟨g', o', e2, h1, h2, h3⟩ := hh (by omega)
 cases e2
 refine ⟨g, o + j, rfl, h1, h2, fun i hi => ?_⟩
 rw [List.length_drop] at hi
 obtain ⟨cs, x, y⟩ := h3 (j + i) (by omega)
 refine ⟨cs, by rw [List.getElem_drop]; exact x, fun q hq => ?_⟩
 have := y q hq
 rw [show o + j + i * 1 + q = o + (j + i) * 1 + q by omega]
 exact this
end Go.Proofs.YtblkgicbimflhaaGreat
