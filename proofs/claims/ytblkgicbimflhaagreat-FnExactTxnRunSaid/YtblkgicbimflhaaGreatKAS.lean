import Derived.Test.YtblkgicbimflhaaGreatKAN
import Derived.Test.YtblkgicbimflhaaGreatKAO
import Derived.Test.YtblkgicbimflhaaGreatKAQ
import Derived.Test.YtblkgicbimflhaaGreatKAR
import Derived.Test.YtblkgicbimflhaaGreatKAF
import Derived.Deep.Heap
import Derived.Test.YtblkgicbimflhaaGreatKAI
namespace Go.Proofs.YtblkgicbimflhaaGreat
open Go.ChangeShapes Go.WideShapes Go.ChangeAt Go.RowKit
set_option linter.unusedVariables false
set_option linter.unusedSimpArgs false
set_option maxRecDepth 100000
open List (setIfInBounds_toArray set_cons_zero set_cons_succ)
theorem run_spec (B bb gx : Nat) (x : Bas) (o : Opn) (cv hv : Value) (vs : List (Value × Value × Value)) (w : World) (hM : Mem B bb gx w x cv hv vs) (hb : Bnd x) (hB : B ≤ w.heap.size) :
 Calls Tryz.prog 21 #[.pointer (some ⟨bb, 0, none⟩), .agg #[.int .i64 o.kd, .int .i64 o.ss, .int .i64 o.tb, .int .i64 o.ky, .int .i64 o.vl, .int .i64 o.md, .string o.nm]] w fun e w' => RunP B bb gx w (runF x o) e w' := by
 by_cases hbad : o.kd < 1 ∨ 10 < o.kd ∨ o.ss < 1 ∨ 4 < o.ss
 ·exact run_bad B bb gx x o cv hv vs w hM hB hbad
 obtain ⟨kd, ss, tb, ky, vl, md, nm⟩ := o
 simp only at hbad ⊢
 obtain ⟨i, rfl⟩ : ∃ i : Nat, ss = (i : Int) + 1 := ⟨(ss - 1).toNat, by omega⟩
 have hi : i < 4 := by omega
 by_cases h1 : kd = 1
 ·subst h1
  cases hop : (x.tx.getD i tx0).op
  ·by_cases hm : md = 1 ∨ md = 2
   ·exact run_1 B bb gx i x tb ky vl md nm cv hv vs w hM hi hop hb hB hm
   ·exact run_1bad B bb gx i x tb ky vl md nm cv hv vs w hM hi hop hb hB (fun h => hm (.inl h)) (fun h => hm (.inr h))
  ·exact run_st1 B bb gx i x tb ky vl md nm cv hv vs w hM hi hop hb hB
 cases hop : (x.tx.getD i tx0).op
 ·exact run_st2 B bb gx i x kd tb ky vl md nm cv hv vs w hM hi hop hb hB (by omega) (by omega) (beq_eq_false_iff_ne.2 h1)
 by_cases h5 : kd ≤ 5
 ·by_cases ht : tb < 0 ∨ 32 ≤ tb
  ·exact run_tb B bb gx i x kd tb ky vl md nm cv hv vs w hM hi hop hb hB (by omega) h5 ht
  ·have h2345 : kd = 2 ∨ kd = 3 ∨ kd = 4 ∨ kd = 5 := by omega
   rcases h2345 with rfl | rfl | rfl | rfl
   ·exact run_2 B bb gx i x tb ky vl md nm cv hv vs w hM hi hop hb hB (by omega) (by omega)
   ·exact run_3 B bb gx i x tb ky vl md nm cv hv vs w hM hi hop hb hB (by omega) (by omega)
   ·exact run_4 B bb gx i x tb ky vl md nm cv hv vs w hM hi hop hb hB (by omega) (by omega)
   ·exact run_5 B bb gx i x tb ky vl md nm cv hv vs w hM hi hop hb hB (by omega) (by omega)
 ·have hr : kd = 6 ∨ kd = 7 ∨ kd = 8 ∨ kd = 9 ∨ kd = 10 := by omega
  rcases hr with rfl | rfl | rfl | rfl | rfl
  ·exact run_6 B bb gx i x tb ky vl md nm cv hv vs w hM hi hop hb hB
  ·exact run_7 B bb gx i x tb ky vl md nm cv hv vs w hM hi hop hb hB
  ·exact run_8 B bb gx i x tb ky vl md nm cv hv vs w hM hi hop hb hB
  ·exact run_9 B bb gx i x tb ky vl md nm cv hv vs w hM hi hop hb hB
  ·exact run_10 B bb gx i x tb ky vl md nm cv hv vs w hM hi hop hb hB
structure BndN (m : Nat) (x : Bas) : Prop where
 ck : 0 ≤ x.ck ∧ x.ck ≤ m
 cl : x.cms.length ≤ m
 cc : ∀ c ∈ x.cms, c.cs.length ≤ m
 hl : x.hs.length ≤ m
 ht : ∀ h ∈ x.hs, BT 32 h
 ow : ∀ t ∈ x.tx, t.own.length ≤ m
 sl : ∀ t ∈ x.tx, t.sv.length ≤ 8
 sc : ∀ t ∈ x.tx, ∀ s ∈ t.sv, s.cs.length ≤ m
theorem BndN.bnd {m : Nat} {x : Bas} (h : BndN m x) (hm : m ≤ 1000) : Bnd x :=
 ⟨⟨h.ck.1, by have := h.ck.2; omega⟩, Nat.le_trans h.cl hm, fun c hc => Nat.le_trans (h.cc c hc) hm, Nat.le_trans h.hl hm, h.ht, fun t ht => Nat.le_trans (h.ow t ht) hm, h.sl, fun t ht s hs => Nat.le_trans (h.sc t ht s hs) hm⟩
theorem BndN.up {m : Nat} {x : Bas} (h : BndN m x) : BndN (m + 1) x :=
 ⟨⟨h.ck.1, by have := h.ck.2; omega⟩, by have := h.cl; omega, fun c hc => by have := h.cc c hc; omega, by have := h.hl; omega, h.ht, fun t ht => by have := h.ow t ht; omega, h.sl, fun t ht s hs => by have := h.sc t ht s hs; omega⟩
theorem BndN.put {m : Nat} {x : Bas} (h : BndN m x) {i : Nat} {t : Txn} (h1 : t.own.length ≤ m) (h2 : t.sv.length ≤ 8) (h3 : ∀ s ∈ t.sv, s.cs.length ≤ m) : BndN m { x with tx := x.tx.set i t } :=
 ⟨h.ck, h.cl, h.cc, h.hl, h.ht, fun u hu => by
  rcases List.mem_or_eq_of_mem_set hu with z | z
  ·exact h.ow u z
  ·rw [z]; exact h1, fun u hu => by
  rcases List.mem_or_eq_of_mem_set hu with z | z
  ·exact h.sl u z
  ·rw [z]; exact h2, fun u hu => by
  rcases List.mem_or_eq_of_mem_set hu with z | z
  ·exact h.sc u z
  ·rw [z]; exact h3⟩
theorem BndN.at {m : Nat} {x : Bas} (h : BndN m x) (i : Nat) : (x.tx.getD i tx0).own.length ≤ m ∧ (x.tx.getD i tx0).sv.length ≤ 8 ∧ ∀ s ∈ (x.tx.getD i tx0).sv, s.cs.length ≤ m := by
 rw [List.getD_eq_getElem?_getD]
 cases e : x.tx[i]? with
 | none => simp [tx0]
 | some t =>
   have hm := List.mem_of_getElem? e
   exact ⟨h.ow t hm, h.sl t hm, h.sc t hm⟩
theorem infoBT (t : Txn) (x : Bas) : BT 32 (infoF t.bg (x.ck + 1) t.own t.rs) := ⟨tabsT_len (readAt t.rs) 32, tabsT_len (wroteAt t.own) 32⟩
theorem bnd_commit {m : Nat} {x : Bas} (h : BndN m x) (i : Nat) : BndN (m + 1) (commitF x i).1 := by
 have ha := h.at i
 have h0 : BndN m { x with tx := x.tx.set i tx0 } := h.put (by simp [tx0]) (by simp [tx0]) (by simp [tx0])
 unfold commitF
 simp only
 split
 ·exact h0.up
 split
 ·exact h0.up
 ·refine ⟨⟨by have := h.ck.1; simp only; omega, by have := h.ck.2; simp only; omega⟩, by simpa using h.cl, fun c hc => ?_, ?_, fun c hc => ?_, fun t ht => by have := h0.ow t ht; omega, h0.sl, fun t ht s hs => by have := h0.sc t ht s hs; omega⟩
  ·rcases List.mem_append.1 hc with z | z
   ·have := h.cc c z; omega
   ·rw [List.mem_singleton] at z; subst z; exact Nat.le_succ_of_le ha.1
  ·split
   ·have := h.hl; simp only [List.length_append, List.length_cons, List.length_nil]; omega
   ·exact Nat.le_succ_of_le h.hl
  ·simp only at hc
   split at hc
   ·rcases List.mem_append.1 hc with z | z
    ·exact h.ht c z
    ·rw [List.mem_singleton] at z; subst z; exact infoBT _ x
   ·exact h.ht c hc
theorem bnd_saves {m : Nat} {x : Bas} (h : BndN m x) (i : Nat) (o : Opn) : BndN m (savesF x i o).1 := by
 have ha := h.at i
 unfold savesF
 simp only
 split
 ·split
  ·exact h
  ·refine h.put ha.1 (by simp only [List.length_append, List.length_cons, List.length_nil]; omega) (fun s hs => ?_)
   rcases List.mem_append.1 hs with z | z
   ·exact ha.2.2 s z
   ·rw [List.mem_singleton] at z; subst z; exact ha.1
 ·split
  ·exact h
  ·rename_i k hk
   split
   ·refine h.put ?_ (by simp only [List.length_take]; omega) (fun s hs => ha.2.2 s (List.mem_of_mem_take hs))
    show ((x.tx.getD i tx0).sv.getD k sv0).cs.length ≤ m
    rw [List.getD_eq_getElem?_getD]
    cases e : (x.tx.getD i tx0).sv[k]? with
    | none => simp [sv0]
    | some s => exact ha.2.2 s (List.mem_of_getElem? e)
   ·exact h.put ha.1 (by simp only [List.length_take]; omega) (fun s hs => ha.2.2 s (List.mem_of_mem_take hs))
theorem bnd_run {m : Nat} {x : Bas} (h : BndN m x) (o : Opn) : BndN (m + 1) (runF x o).1 := by
 have ha := h.at (o.ss - 1).toNat
 unfold runF
 split
 ·exact h.up
 simp only
 split
 ·exact h.up
 split
 ·exact h.up
 split
 ·split
  ·exact h.up
  ·exact h.up.put (by simp) (by simp) (by simp)
 split
 ·exact h.up.put (by simp only; omega) ha.2.1 (fun s hs => by have := ha.2.2 s hs; omega)
 split
 ·exact h.up.put (by simp only; omega) ha.2.1 (fun s hs => by have := ha.2.2 s hs; omega)
 split
 ·exact h.up.put (by simp only [List.length_append, List.length_cons, List.length_nil]; omega) ha.2.1 (fun s hs => by have := ha.2.2 s hs; omega)
 split
 ·exact bnd_commit h _
 split
 ·exact h.up.put (by simp [tx0]) (by simp [tx0]) (by simp [tx0])
 ·exact (bnd_saves h _ o).up
theorem run_ps {m : Nat} {x : Bas} (h : BndN m x) (hm : m ≤ 1000) (hx : x.tx.length = 4) (o : Opn) : (runF x o).2.ps.length ≤ 1048576 := by
 unfold runF
 split
 ·simp
 simp only
 split
 ·simp
 split
 ·simp
 split
 ·split <;> simp
 split
 ·split <;> simp
 split
 ·rename_i hb _ _ _ _ _
  have hi : (o.ss - 1).toNat < x.tx.length := by omega
  have ht : x.tx.getD (o.ss - 1).toNat tx0 ∈ x.tx := by
   rw [List.getD_eq_getElem?_getD, List.getElem?_eq_getElem hi]
   exact List.getElem_mem hi
  have h1 := (h.bnd hm).all ht
  refine Nat.le_trans ?_ h1
  exact Nat.le_trans (pairsF_len _ _ _ _ _) (keysF_len _ _ _)
 split
 ·simp
 split
 ·simp
 split <;> simp
structure MKd (w wr : World) (g o : Nat) (k : Int) (i n : Nat) : Prop where
 size : wr.heap.size = w.heap.size
 block : ∀ b, b ≠ g → wr.heap[b]? = w.heap[b]?
 told : ∀ j, j < i → wr.cell? ⟨g, o + j, none⟩ = some (.int .i64 (k + j))
 room : ∀ j, j < n → (∃ x, wr.cell? ⟨g, o + j, none⟩ = some (.int .i64 x)) ∧ wr.frozen? ⟨g, o + j, none⟩ = false
 ints : ∀ j, wr.cell? ⟨g, j, none⟩ = w.cell? ⟨g, j, none⟩ ∨ ∃ x, wr.cell? ⟨g, j, none⟩ = some (.int .i64 x)
 froz : ∀ j, wr.frozen? ⟨g, j, none⟩ = w.frozen? ⟨g, j, none⟩
theorem MKd.step {w wr : World} {g o i n : Nat} {k : Int} (h : MKd w wr g o k i n) (hi : i < n) : MKd w (wr.setCell ⟨g, o + i, none⟩ (.int .i64 (k + i))) g o k (i + 1) n := by
 have hs : (wr.setCell ⟨g, o + i, none⟩ (.int .i64 (k + i))).cell? ⟨g, o + i, none⟩ = some (.int .i64 (k + i)) := by
  obtain ⟨⟨x, hx⟩, hf⟩ := h.room i hi
  simp [go_sem, hx, hf]
 have ho : ∀ j, j ≠ i → (wr.setCell ⟨g, o + i, none⟩ (.int .i64 (k + i))).cell? ⟨g, o + j, none⟩ = wr.cell? ⟨g, o + j, none⟩ := fun j hj => World.cell?_setCell_other wr ⟨g, o + i, none⟩ ⟨g, o + j, none⟩ _ (fun e => by have := congrArg Addr.off e; simp at this; omega)
 refine ⟨by simpa using h.size, fun b hb => (Go.Deep.blk_setCell_other wr ⟨g, o + i, none⟩ _ b hb).trans (h.block b hb), fun j hj => ?_, fun j hj => ⟨?_, by simpa using (h.room j hj).2⟩, fun j => ?_, fun j => by simpa using h.froz j⟩
 ·by_cases e : j = i
  ·subst e; exact hs
  ·rw [ho j e]; exact h.told j (by omega)
 ·by_cases e : j = i
  ·subst e; exact ⟨_, hs⟩
  ·rw [ho j e]; exact (h.room j hj).1
 ·by_cases e : j = o + i
  ·subst e; exact .inr ⟨_, hs⟩
  ·rw [World.cell?_setCell_other wr ⟨g, o + i, none⟩ ⟨g, j, none⟩ _ (fun e' => by have := congrArg Addr.off e'; simp at this; omega)]; exact h.ints j
set_option maxHeartbeats 4000000 in
theorem markPS_any (g o n cap : Nat) (k : Int) (w a0 : World) (B0 : Nat) (hk : 0 ≤ k) (hk2 : k + 2 * n ≤ 4611686018427387904) (hn : n ≤ 1048576) (hb : Below B0 a0 w) (hB : B0 ≤ g) (hw : ∀ j, j < 2 * n → (∃ x, w.cell? ⟨g, o + j, none⟩ = some (.int .i64 x)) ∧ w.frozen? ⟨g, o + j, none⟩ = false) :
 Calls Tryz.prog 35 #[.slice (some ⟨g, o, none⟩) n cap, .int .i64 k] w fun e w' => e = .returned (.int .i64 (k + 2 * n)) ∧ Below B0 a0 w' ∧ MKd w w' g o k (2 * n) (2 * n) := by
 have M0 : Hid (MKd w w g o k 0 (2 * n)) := ⟨rfl, fun _ _ => rfl, fun j h => absurd h (Nat.not_lt_zero _), hw, fun _ => .inl rfl, fun _ => rfl⟩
 clear hw
 go_enter Tryz.func35, Tryz.ntmps35
 go_wp2
 go_loopw [1, 5] (fun kv iv wr => ∃ i : Nat, i ≤ n ∧ kv = .int .i64 (k + 2 * i) ∧ iv = .int .i64 i ∧ Below B0 a0 wr ∧ Hid (MKd w wr g o k (i * 2) (2 * n))) (fun _ iv _ => n - (intOf iv).toNat)
 case atStart => exact ⟨0, Nat.zero_le _, by simp, rfl, hb, M0⟩
 case round =>
  clear M0 hb
  obtain ⟨i, hi, rfl, rfl, hb, M⟩ := hrel
  by_cases hlt : i < n
  ·have hlti : (i : Int) < n := by omega
   obtain ⟨⟨x, hx⟩, hf⟩ := M.out.room (i * 2) (by omega)
   obtain ⟨⟨y, hy⟩, hg⟩ := M.out.room (i * 2 + 1) (by omega)
   have e1 : k + 2 * (i : Int) = k + ((i * 2 : Nat) : Int) := by omega
   have e2 : k + 2 * (i : Int) + 1 = k + ((i * 2 + 1 : Nat) : Int) := by omega
   have M2 : Hid (MKd w ((wr.setCell ⟨g, o + i * 2, none⟩ (.int .i64 (k + 2 * (i : Int)))).setCell ⟨g, o + i * 2 + 1, none⟩ (.int .i64 (k + 2 * (i : Int) + 1))) g o k ((i + 1) * 2) (2 * n)) := hid (by
    have h := (M.out.step (by omega : i * 2 < 2 * n)).step (by omega : i * 2 + 1 < 2 * n)
    rw [e1, show k + ((i * 2 : Nat) : Int) + 1 = k + ((i * 2 + 1 : Nat) : Int) by omega, show (i + 1) * 2 = i * 2 + 1 + 1 by omega]
    exact h)
   have b2 := (hb.setCell (show B0 ≤ (⟨g, o + i * 2, none⟩ : Addr).block by simp; omega) (.int .i64 (k + 2 * (i : Int)))).setCell (show B0 ≤ (⟨g, o + i * 2 + 1, none⟩ : Addr).block by simp; omega) (.int .i64 (k + 2 * (i : Int) + 1))
   have hw1 : IntKind.i64.wrap (k + 2 * (i : Int) + 1) = k + 2 * (i : Int) + 1 := by simp only [IntKind.wrap_i64, wrap64]; omega
   have hw2 : IntKind.i64.wrap (k + 2 * (i : Int) + 1 + 1) = k + 2 * (i : Int) + 1 + 1 := by simp only [IntKind.wrap_i64, wrap64]; omega
   rw [show o + (i * 2 + 1) = o + i * 2 + 1 by omega] at hy hg
   clear M hb e1 e2
   go_wp2
   go_roundw
   case rel => exact ⟨i + 1, by omega, by simp; omega, by go_num, b2, M2⟩
   case measure => simp [intOf]; omega
  ·have hin : i = n := by omega
   subst hin
   have hlti : ¬ (i : Int) < i := by omega
   rw [Nat.mul_comm] at M
   go_wp2
   go_ret
   exact ⟨rfl, hb, M.out⟩
theorem markPS_none (a : Option Addr) (cap : Nat) (k : Int) (w : World) :
 Calls Tryz.prog 35 #[.slice a 0 cap, .int .i64 k] w fun e w' => e = .returned (.int .i64 k) ∧ w' = w := by
 go_enter Tryz.func35, Tryz.ntmps35
 go_wp2
 go_loopw [1, 5] (fun kv iv wr => kv = .int .i64 k ∧ iv = .int .i64 0 ∧ wr = w) (fun _ _ _ => 0)
 case atStart => exact ⟨rfl, rfl, rfl⟩
 case round =>
  obtain ⟨rfl, rfl, hww⟩ := hrel
  replace hww := hww.symm
  subst hww
  go_wp2
  go_ret
  exact ⟨rfl, rfl⟩
set_option maxHeartbeats 4000000 in
theorem heldPS_any (g o n cap : Nat) (k : Int) (w : World) (hk : 0 ≤ k) (hk2 : k + 2 * n ≤ 4611686018427387904) (hn : n ≤ 1048576) (hw : ∀ j, j < 2 * n → w.cell? ⟨g, o + j, none⟩ = some (.int .i64 (k + j))) :
 Calls Tryz.prog 36 #[.slice (some ⟨g, o, none⟩) n cap, .int .i64 k] w fun e w' => e = .returned (.int .i64 (k + 2 * n)) ∧ w' = w := by
 have HW := hid hw
 clear hw
 go_enter Tryz.func36, Tryz.ntmps36
 go_wp2
 go_loopw [1, 5] (fun kv iv wr => ∃ i : Nat, i ≤ n ∧ kv = .int .i64 (k + 2 * i) ∧ iv = .int .i64 i ∧ wr = w) (fun _ iv _ => n - (intOf iv).toNat)
 case atStart => exact ⟨0, Nat.zero_le _, by simp, rfl, rfl⟩
 case round =>
  obtain ⟨i, hi, rfl, rfl, hww⟩ := hrel
  replace hww := hww.symm
  subst hww
  by_cases hlt : i < n
  ·have hlti : (i : Int) < n := by omega
   have hx : w.cell? ⟨g, o + i * 2, none⟩ = some (.int .i64 (k + 2 * (i : Int))) := by rw [HW.out (i * 2) (by omega)]; congr 2; omega
   have hy : w.cell? ⟨g, o + i * 2 + 1, none⟩ = some (.int .i64 (k + 2 * (i : Int) + 1)) := by rw [Nat.add_assoc, HW.out (i * 2 + 1) (by omega)]; congr 2; omega
   have hw1 : IntKind.i64.wrap (k + 2 * (i : Int) + 1) = k + 2 * (i : Int) + 1 := by simp only [IntKind.wrap_i64, wrap64]; omega
   have hw2 : IntKind.i64.wrap (k + 2 * (i : Int) + 1 + 1) = k + 2 * (i : Int) + 1 + 1 := by simp only [IntKind.wrap_i64, wrap64]; omega
   go_wp2
   go_roundw
   case rel => exact ⟨i + 1, by omega, by simp; omega, by go_num, by first | exact rfl | trivial⟩
   case measure => simp [intOf]; omega
  ·have hin : i = n := by omega
   subst hin
   have hlti : ¬ (i : Int) < i := by omega
   go_wp2
   go_ret
   exact ⟨rfl, rfl⟩
theorem heldPS_none (a : Option Addr) (cap : Nat) (k : Int) (w : World) :
 Calls Tryz.prog 36 #[.slice a 0 cap, .int .i64 k] w fun e w' => e = .returned (.int .i64 k) ∧ w' = w := by
 go_enter Tryz.func36, Tryz.ntmps36
 go_wp2
 go_loopw [1, 5] (fun kv iv wr => kv = .int .i64 k ∧ iv = .int .i64 0 ∧ wr = w) (fun _ _ _ => 0)
 case atStart => exact ⟨rfl, rfl, rfl⟩
 case round =>
  obtain ⟨rfl, rfl, hww⟩ := hrel
  replace hww := hww.symm
  subst hww
  go_wp2
  go_ret
  exact ⟨rfl, rfl⟩
def Room (w : World) (b o : Nat) : Prop := (∃ x, w.cell? ⟨b, o, none⟩ = some (.int .i64 x)) ∧ w.frozen? ⟨b, o, none⟩ = false
def obC (x : Value × Obn) : List Value := [.int .i64 x.2.code, .int .i64 x.2.vl, .int .i64 x.2.st, .bool x.2.fd, x.1]
def AnR (b : Nat) (w : World) (v : Value) (ps : List (Value × Obn)) : Prop := w.ownsRow b 38 5 v ps.length (ps.flatMap obC) ∧ (∀ x ∈ ps, Gr pairV 92 2 b w x.1 x.2.ps) ∧ ps.Pairwise (fun x y => ∀ c, x.1.ownBlock = some c → y.1.ownBlock ≠ some c)
theorem flat5 : ∀ (ps : List (Value × Obn)) (j : Nat) (hj : j < ps.length) (t : Nat), t < 5 → (ps.flatMap obC)[j * 5 + t]? = (obC ps[j])[t]?
 | x :: r, 0, hj, t, ht => by
   rw [List.flatMap_cons, List.getElem?_append_left (by simp [obC]; omega)]
   simp
 | x :: r, j + 1, hj, t, ht => by
   rw [List.flatMap_cons, List.getElem?_append_right (by simp [obC]; omega), show (j + 1) * 5 + t - (obC x).length = j * 5 + t by simp [obC]; omega, flat5 r j (by simpa using hj) t ht]
   simp
theorem flat2_int {qs : List (Int × Int)} {t : Nat} (ht : t < 2 * qs.length) : ∃ x, (qs.flatMap pairV)[t]? = some (.int .i64 x) := by
 induction qs generalizing t with
 | nil => simp at ht
 | cons q r ih =>
   rw [List.flatMap_cons]
   by_cases h : t < 2
   ·rw [List.getElem?_append_left (by simpa [pairV] using h)]
    rcases Nat.eq_zero_or_pos t with h0 | h0
    ·subst h0; exact ⟨q.1, rfl⟩
    ·have : t = 1 := by omega
     subst this; exact ⟨q.2, rfl⟩
   ·rw [List.getElem?_append_right (by simp [pairV]; omega)]
    exact ih (by simp [pairV] at *; omega)
def kA (ps : List (Value × Obn)) : Nat → Nat
 | 0 => 0
 | i + 1 => kA ps i + 4 + 2 * ((ps[i]?).map (fun x => x.2.ps.length)).getD 0
theorem kA_on {ps : List (Value × Obn)} {i : Nat} (h : i < ps.length) : kA ps (i + 1) = kA ps i + 4 + 2 * ps[i].2.ps.length := by
 rw [kA, List.getElem?_eq_getElem h]; rfl
theorem kA_le {ps : List (Value × Obn)} {M : Nat} (hM : ∀ x ∈ ps, x.2.ps.length ≤ M) : ∀ i, i ≤ ps.length → kA ps i ≤ i * (2 * M + 4)
 | 0, _ => Nat.zero_le _
 | i + 1, h => by
   have ih := kA_le hM i (by omega)
   have := hM ps[i] (List.getElem_mem (by omega))
   have e : (i + 1) * (2 * M + 4) = i * (2 * M + 4) + (2 * M + 4) := Nat.succ_mul i _
   rw [kA_on (by omega), e]
   generalize i * (2 * M + 4) = z at *
   omega
def RoomB (w : World) (b o : Nat) : Prop := (∃ x, w.cell? ⟨b, o, none⟩ = some (.bool x)) ∧ w.frozen? ⟨b, o, none⟩ = false
structure OM (B : Nat) (w : World) (g : Nat) (ps : List (Value × Obn)) (k : Int) (i i' : Nat) : Prop where
 ge : B ≤ g
 lt : g < w.heap.size
 hdr : ∀ j (h : j < ps.length), w.cell? ⟨g, j * 5 + 4, none⟩ = some ps[j].1
 row : ∀ j (h : j < ps.length), Room w g (j * 5) ∧ Room w g (j * 5 + 1) ∧ Room w g (j * 5 + 2) ∧ RoomB w g (j * 5 + 3)
 tld : ∀ j (h : j < ps.length), j < i → w.cell? ⟨g, j * 5, none⟩ = some (.int .i64 (k + kA ps j)) ∧ w.cell? ⟨g, j * 5 + 1, none⟩ = some (.int .i64 (k + kA ps j + 1)) ∧ w.cell? ⟨g, j * 5 + 2, none⟩ = some (.int .i64 (k + kA ps j + 1 + 1)) ∧ w.cell? ⟨g, j * 5 + 3, none⟩ = some (.bool ((k + kA ps j + 1 + 1 + 1) % 3 == 0))
 own : ∀ j (h : j < ps.length), ∃ oa oc, ps[j].1 = .slice oa ps[j].2.ps.length oc ∧ (0 < ps[j].2.ps.length → ∃ b, oa = some ⟨b, 0, none⟩ ∧ B ≤ b ∧ b < w.heap.size ∧ b ≠ g ∧ (∀ t, t < 2 * ps[j].2.ps.length → Room w b t) ∧ (j < i' → ∀ t, t < 2 * ps[j].2.ps.length → w.cell? ⟨b, t, none⟩ = some (.int .i64 (k + kA ps j + 4 + t))))
def Dis (ps : List (Value × Obn)) : Prop := ∀ j j' (h : j < ps.length) (h' : j' < ps.length), j ≠ j' → ∀ b, ps[j].1.ownBlock = some b → ps[j'].1.ownBlock ≠ some b
theorem AnR.dis {b : Nat} {w : World} {v : Value} {ps : List (Value × Obn)} (h : AnR b w v ps) : Dis ps := fun j j' hj hj' hn c hc hc' => by
 have hp := List.pairwise_iff_getElem.1 h.2.2
 rcases Nat.lt_or_gt_of_ne hn with hl | hl
 ·exact hp j j' hj hj' hl c hc hc'
 ·exact hp j' j hj' hj hl c hc' hc
theorem AnR.om {B : Nat} {w : World} {g cap : Nat} {ps : List (Value × Obn)} (h : AnR B w (.slice (some ⟨g, 0, none⟩) ps.length cap) ps) (k : Int) : OM B w g ps k 0 0 := by
 have hlt := h.1.lt g rfl
 have cell : ∀ j (hj : j < ps.length) t, t < 5 → w.cell? ⟨g, j * 5 + t, none⟩ = (obC ps[j])[t]? := fun j hj t ht => by
  have hf := flat5 ps j hj t ht
  have hl : t < (obC ps[j]).length := by simpa [obC] using ht
  rw [List.getElem?_eq_getElem hl] at hf ⊢
  exact own_cell h.1 hf
 refine ⟨hlt.1, hlt.2, fun j hj => cell j hj 4 (by omega), fun j hj => ⟨⟨⟨_, cell j hj 0 (by omega)⟩, h.1.frozenAt _⟩, ⟨⟨_, cell j hj 1 (by omega)⟩, h.1.frozenAt _⟩, ⟨⟨_, cell j hj 2 (by omega)⟩, h.1.frozenAt _⟩, ⟨⟨_, cell j hj 3 (by omega)⟩, h.1.frozenAt _⟩⟩, fun j _ hj => absurd hj (Nat.not_lt_zero _), fun j hj => ?_⟩
 have hI : w.ownsRow B 92 2 ps[j].1 ps[j].2.ps.length (ps[j].2.ps.flatMap pairV) := h.2.1 ps[j] (List.getElem_mem hj)
 obtain ⟨oa, oc, he⟩ := formR hI
 refine ⟨oa, oc, he, fun hp => ?_⟩
 have hI2 := hI.2
 rcases hI2 with ⟨_, h0⟩ | ⟨b, cp, cur, hv, hb1, hb2, hb3⟩
 ·omega
 ·rw [he] at hv
  simp only [Value.slice.injEq] at hv
  obtain ⟨rfl, _, rfl⟩ := hv
  have hbl := World.ownsRow.lt hI b (by rw [he]; rfl)
  have hne : b ≠ g := tag_ne (own_tag hI (g := b) (by rw [he]; rfl)) (own_tag h.1 (g := g) rfl) (by decide)
  rw [he] at hI
  refine ⟨b, rfl, hbl.1, hbl.2, hne, fun t ht => ?_, fun h => absurd h (Nat.not_lt_zero _)⟩
  obtain ⟨x, hx⟩ := flat2_int ht
  exact ⟨⟨x, own_cell hI hx⟩, World.ownsRow.frozenAt hI t⟩
theorem room_other {w : World} {b o c j : Nat} {x : Int} (h : Room w b o) : Room (w.setCell ⟨c, j, none⟩ (.int .i64 x)) b o := by
 refine ⟨?_, by simpa using h.2⟩
 by_cases e : (⟨c, j, none⟩ : Addr) = ⟨b, o, none⟩
 ·cases e
  obtain ⟨y, hy⟩ := h.1
  exact ⟨x, World.cell?_setCell_same _ _ _ hy⟩
 ·rw [World.cell?_setCell_other w ⟨c, j, none⟩ ⟨b, o, none⟩ _ e]
  exact h.1
theorem room_otherB {w : World} {b o c j : Nat} {x : Bool} (h : RoomB w b o) : RoomB (w.setCell ⟨c, j, none⟩ (.bool x)) b o := by
 refine ⟨?_, by simpa using h.2⟩
 by_cases e : (⟨c, j, none⟩ : Addr) = ⟨b, o, none⟩
 ·cases e
  obtain ⟨y, hy⟩ := h.1
  exact ⟨x, World.cell?_setCell_same _ _ _ hy⟩
 ·rw [World.cell?_setCell_other w ⟨c, j, none⟩ ⟨b, o, none⟩ _ e]
  exact h.1
theorem room_ne {w : World} {b o c j : Nat} {u : Value} (h : Room w b o) (hn : b ≠ c ∨ o ≠ j) : Room (w.setCell ⟨c, j, none⟩ u) b o := by
 refine ⟨?_, by simpa using h.2⟩
 rw [World.cell?_setCell_other w ⟨c, j, none⟩ ⟨b, o, none⟩ _ (fun e => by cases e; rcases hn with h | h <;> exact h rfl)]
 exact h.1
theorem roomB_ne {w : World} {b o c j : Nat} {u : Value} (h : RoomB w b o) (hn : b ≠ c ∨ o ≠ j) : RoomB (w.setCell ⟨c, j, none⟩ u) b o := by
 refine ⟨?_, by simpa using h.2⟩
 rw [World.cell?_setCell_other w ⟨c, j, none⟩ ⟨b, o, none⟩ _ (fun e => by cases e; rcases hn with h | h <;> exact h rfl)]
 exact h.1
theorem set_ne {w : World} {g c j : Nat} {u v : Value} (h : w.cell? ⟨g, c, none⟩ = some v) (hn : c ≠ j) : (w.setCell ⟨g, j, none⟩ u).cell? ⟨g, c, none⟩ = some v := by
 rw [World.cell?_setCell_other w ⟨g, j, none⟩ ⟨g, c, none⟩ _ (fun e => by cases e; exact hn rfl)]
 exact h
theorem OM.step {B : Nat} {w : World} {g : Nat} {ps : List (Value × Obn)} {k : Int} {i : Nat} (h : OM B w g ps k i i) (hi : i < ps.length) : OM B ((((w.setCell ⟨g, i * 5, none⟩ (.int .i64 (k + kA ps i))).setCell ⟨g, i * 5 + 1, none⟩ (.int .i64 (k + kA ps i + 1))).setCell ⟨g, i * 5 + 2, none⟩ (.int .i64 (k + kA ps i + 1 + 1))).setCell ⟨g, i * 5 + 3, none⟩ (.bool ((k + kA ps i + 1 + 1 + 1) % 3 == 0))) g ps k (i + 1) i := by
 obtain ⟨⟨⟨x0, hx0⟩, f0⟩, ⟨⟨x1, hx1⟩, f1⟩, ⟨⟨x2, hx2⟩, f2⟩, ⟨⟨x3, hx3⟩, f3⟩⟩ := h.row i hi
 refine ⟨h.ge, by simpa [World.setCell] using h.lt, fun j hj => set_ne (set_ne (set_ne (set_ne (h.hdr j hj) (by omega)) (by omega)) (by omega)) (by omega), fun j hj => ⟨room_ne (room_other (room_other (room_other (h.row j hj).1))) (.inr (by omega)), room_ne (room_other (room_other (room_other (h.row j hj).2.1))) (.inr (by omega)), room_ne (room_other (room_other (room_other (h.row j hj).2.2.1))) (.inr (by omega)), room_otherB (roomB_ne (roomB_ne (roomB_ne (h.row j hj).2.2.2 (.inr (by omega))) (.inr (by omega))) (.inr (by omega)))⟩, fun j hj hji => ?_, fun j hj => ?_⟩
 ·by_cases e : j = i
  ·subst e
   exact ⟨set_ne (set_ne (set_ne (World.cell?_setCell_same _ _ _ hx0) (by omega)) (by omega)) (by omega), set_ne (set_ne (World.cell?_setCell_same _ _ _ (set_ne hx1 (by omega))) (by omega)) (by omega), set_ne (World.cell?_setCell_same _ _ _ (set_ne (set_ne hx2 (by omega)) (by omega))) (by omega), World.cell?_setCell_same _ _ _ (set_ne (set_ne (set_ne hx3 (by omega)) (by omega)) (by omega))⟩
  ·obtain ⟨a, b, c, d⟩ := h.tld j hj (by omega)
   exact ⟨set_ne (set_ne (set_ne (set_ne a (by omega)) (by omega)) (by omega)) (by omega), set_ne (set_ne (set_ne (set_ne b (by omega)) (by omega)) (by omega)) (by omega), set_ne (set_ne (set_ne (set_ne c (by omega)) (by omega)) (by omega)) (by omega), set_ne (set_ne (set_ne (set_ne d (by omega)) (by omega)) (by omega)) (by omega)⟩
 ·obtain ⟨oa, oc, he, ho⟩ := h.own j hj
  refine ⟨oa, oc, he, fun hp => ?_⟩
  obtain ⟨b, e1, e2, e3, e4, e5, e6⟩ := ho hp
  refine ⟨b, e1, e2, by simpa [World.setCell] using e3, e4, fun t ht => room_ne (room_ne (room_ne (room_ne (e5 t ht) (.inl e4)) (.inl e4)) (.inl e4)) (.inl e4), fun hji t ht => ?_⟩
  rw [World.cell?_setCell_other _ ⟨g, i * 5 + 3, none⟩ ⟨b, t, none⟩ _ (fun e => by cases e; exact e4 rfl), World.cell?_setCell_other _ ⟨g, i * 5 + 2, none⟩ ⟨b, t, none⟩ _ (fun e => by cases e; exact e4 rfl), World.cell?_setCell_other _ ⟨g, i * 5 + 1, none⟩ ⟨b, t, none⟩ _ (fun e => by cases e; exact e4 rfl), World.cell?_setCell_other _ ⟨g, i * 5, none⟩ ⟨b, t, none⟩ _ (fun e => by cases e; exact e4 rfl)]
  exact e6 hji t ht
theorem OM.same {B : Nat} {w : World} {g : Nat} {ps : List (Value × Obn)} {k : Int} {i : Nat} (h : OM B w g ps k (i + 1) i) (hz : ∀ hi : i < ps.length, ps[i].2.ps.length = 0) : OM B w g ps k (i + 1) (i + 1) :=
 ⟨h.ge, h.lt, h.hdr, h.row, h.tld, fun j hj => by
  obtain ⟨oa, oc, he, ho⟩ := h.own j hj
  refine ⟨oa, oc, he, fun hp => ?_⟩
  obtain ⟨b, e1, e2, e3, e4, e5, e6⟩ := ho hp
  refine ⟨b, e1, e2, e3, e4, e5, fun hji => e6 ?_⟩
  by_cases e : j = i
  ·subst e
   rw [hz hj] at hp
   omega
  ·omega⟩
theorem OM.nest {B : Nat} {w w' : World} {g : Nat} {ps : List (Value × Obn)} {k : Int} {i b oc : Nat} (hd : Dis ps) (h : OM B w g ps k (i + 1) i) (hi : i < ps.length) (hb : ps[i].1 = .slice (some ⟨b, 0, none⟩) ps[i].2.ps.length oc) (hbg : b ≠ g) (m : MKd w w' b 0 (k + kA ps i + 4) (2 * ps[i].2.ps.length) (2 * ps[i].2.ps.length)) : OM B w' g ps k (i + 1) (i + 1) := by
 have bg := m.block g (fun e => hbg e.symm)
 have cg : ∀ t, w'.cell? ⟨g, t, none⟩ = w.cell? ⟨g, t, none⟩ := fun t => World.cell?_of_block (a := ⟨g, t, none⟩) bg
 have fg : ∀ t, w'.frozen? ⟨g, t, none⟩ = w.frozen? ⟨g, t, none⟩ := fun t => World.frozen?_of_block (a := ⟨g, t, none⟩) bg
 have rm : ∀ {c t}, Room w c t → Room w' c t := fun {c t} hr => by
  by_cases e : c = b
  ·subst e
   refine ⟨?_, (m.froz t).trans hr.2⟩
   rcases m.ints t with h1 | h1
   ·rw [h1]; exact hr.1
   ·exact h1
  ·have := m.block c e
   exact ⟨by rw [World.cell?_of_block (a := ⟨c, t, none⟩) this]; exact hr.1, (World.frozen?_of_block (a := ⟨c, t, none⟩) this).trans hr.2⟩
 refine ⟨h.ge, by rw [m.size]; exact h.lt, fun j hj => (cg _).trans (h.hdr j hj), fun j hj => ⟨rm (h.row j hj).1, rm (h.row j hj).2.1, rm (h.row j hj).2.2.1, ⟨by rw [cg]; exact (h.row j hj).2.2.2.1, (fg _).trans (h.row j hj).2.2.2.2⟩⟩, fun j hj hji => ⟨(cg _).trans (h.tld j hj hji).1, (cg _).trans (h.tld j hj hji).2.1, (cg _).trans (h.tld j hj hji).2.2.1, (cg _).trans (h.tld j hj hji).2.2.2⟩, fun j hj => ?_⟩
 obtain ⟨oa, oc', he, ho⟩ := h.own j hj
 refine ⟨oa, oc', he, fun hp => ?_⟩
 obtain ⟨c, rfl, e2, e3, e4, e5, e6⟩ := ho hp
 refine ⟨c, rfl, e2, by rw [m.size]; exact e3, e4, fun t ht => rm (e5 t ht), fun hji t ht => ?_⟩
 by_cases e : j = i
 ·subst e
  rw [hb] at he
  simp only [Value.slice.injEq, Option.some.injEq, Addr.mk.injEq] at he
  obtain ⟨⟨rfl, _⟩, _⟩ := he
  have := m.told t ht
  rw [Nat.zero_add] at this
  exact this
 ·have hcb : c ≠ b := fun e' => hd j i hj hi e c (by rw [he]; rfl) (by rw [hb, e']; rfl)
  rw [World.cell?_of_block (a := ⟨c, t, none⟩) (m.block c hcb)]
  exact e6 (by omega) t ht
theorem OM.below {B : Nat} {w w' : World} {g : Nat} {ps : List (Value × Obn)} {k : Int} {i i' : Nat} (h : OM B w g ps k i i') (hb : Below w.heap.size w w') : OM B w' g ps k i i' := by
 have rm : ∀ {c t}, c < w.heap.size → Room w c t → Room w' c t := fun {c t} hc hr => ⟨by rw [hb.cell (p := ⟨c, t, none⟩) hc]; exact hr.1, (hb.frozen (p := ⟨c, t, none⟩) hc).trans hr.2⟩
 have rmB : ∀ {c t}, c < w.heap.size → RoomB w c t → RoomB w' c t := fun {c t} hc hr => ⟨by rw [hb.cell (p := ⟨c, t, none⟩) hc]; exact hr.1, (hb.frozen (p := ⟨c, t, none⟩) hc).trans hr.2⟩
 refine ⟨h.ge, Nat.lt_of_lt_of_le h.lt hb.size, fun j hj => (hb.cell (p := ⟨g, j * 5 + 4, none⟩) h.lt).trans (h.hdr j hj), fun j hj => ⟨rm h.lt (h.row j hj).1, rm h.lt (h.row j hj).2.1, rm h.lt (h.row j hj).2.2.1, rmB h.lt (h.row j hj).2.2.2⟩, fun j hj hji => ⟨(hb.cell (p := ⟨g, j * 5, none⟩) h.lt).trans (h.tld j hj hji).1, (hb.cell (p := ⟨g, j * 5 + 1, none⟩) h.lt).trans (h.tld j hj hji).2.1, (hb.cell (p := ⟨g, j * 5 + 2, none⟩) h.lt).trans (h.tld j hj hji).2.2.1, (hb.cell (p := ⟨g, j * 5 + 3, none⟩) h.lt).trans (h.tld j hj hji).2.2.2⟩, fun j hj => ?_⟩
 obtain ⟨oa, oc, he, ho⟩ := h.own j hj
 refine ⟨oa, oc, he, fun hp => ?_⟩
 obtain ⟨b, e1, e2, e3, e4, e5, e6⟩ := ho hp
 exact ⟨b, e1, e2, Nat.lt_of_lt_of_le e3 hb.size, e4, fun t ht => rm e3 (e5 t ht), fun hji t ht => (hb.cell (p := ⟨b, t, none⟩) e3).trans (e6 hji t ht)⟩
end Go.Proofs.YtblkgicbimflhaaGreat
