import Derived.Test.YtblkgicbimflhaaGreatKAS
import Derived.Test.YtblkgicbimflhaaGreatKAU
import Derived.Lib.Overlaps
import Derived.Lib.AppendZerosOnto
import Derived.Laws.CopyRow
import Derived.Laws.Externs
namespace Go.Proofs.YtblkgicbimflhaaGreat
open Go.ChangeShapes Go.WideShapes Go.ChangeAt Go.RowKit
set_option linter.unusedVariables false
set_option linter.unusedSimpArgs false
set_option maxRecDepth 100000
open List (setIfInBounds_toArray set_cons_zero set_cons_succ)
theorem infoObs : (Tryz.prog.info? 38).map (fun i => (i.zero, i.size, i.bytes)) = some (some (.agg #[.int .i64 0, .int .i64 0, .int .i64 0, .bool false, .slice none 0 0]), 5, 56) := by kernel_rfl
theorem own_keep {w w' : World} {b e k n : Nat} {v : Value} {xs : List Value} (h : w.ownsRow b e k v n xs) (hk : Keep w w') (hi : Im e) : w'.ownsRow b e k v n xs := by
 have ht := fun g => own_tag h (g := g)
 obtain ⟨h1, h2⟩ := h
 refine ⟨h1, ?_⟩
 rcases h2 with h2 | ⟨g, cap, cur, rfl, hg1, hg2, hg3⟩
 ·exact .inl h2
 ·exact .inr ⟨g, cap, cur, rfl, hg1, by rw [hk.2 g e hi (ht g rfl)]; exact hg2, hg3⟩
theorem imP : Im 92 := by unfold Im; decide
theorem AnR.keep {b : Nat} {w w' : World} {v : Value} {ps : List (Value × Obn)} (h : AnR b w v ps) (hk : Keep w w') : AnR b w' v ps :=
 ⟨own_keep h.1 hk imO, fun x hx => own_keep (h.2.1 x hx) hk imP, h.2.2⟩
theorem AnR.push {b : Nat} {w w' : World} {v v' pv : Value} {ps : List (Value × Obn)} {o : Obn} (h : AnR b w v ps) (hg : w.grownBy w' v.ownBlock) (ho : w'.ownsRow b 38 5 v' (ps.length + 1) (ps.flatMap obC ++ obC (pv, o))) (hp : Gr pairV 92 2 b w pv o.ps) (hn : ∀ c, pv.ownBlock = some c → ∀ x ∈ ps, x.1.ownBlock ≠ some c) : AnR b w' v' (ps ++ [(pv, o)]) := by
 have hk : Chg (fun ty => ty = 38) w w' := Chg.grown hg (fun g hg => ⟨_, rfl, own_tag h.1 hg⟩)
 refine ⟨?_, fun x hx => ?_, ?_⟩
 ·rw [List.length_append, List.flatMap_append]
  simpa using ho
 ·rcases List.mem_append.1 hx with z | z
  ·exact own_chg (h.2.1 x z) hk (by decide)
  ·rw [List.mem_singleton] at z
   subst z
   exact own_chg hp hk (by decide)
 ·refine List.pairwise_append.2 ⟨h.2.2, List.pairwise_singleton _ _, fun x hx y hy c hc hc2 => ?_⟩
  rw [List.mem_singleton] at hy
  subst hy
  exact hn c hc2 x hx hc
theorem oneOb {pv : Value} {o : Obn} {a : Option Addr} {n c : Nat} (h : pv = .slice a n c) : ∀ u ∈ obC (pv, o), u.oneCell' = true := fun u hu => by
 subst h
 unfold obC at hu
 simp at hu
 rcases hu with rfl | rfl | rfl | rfl | rfl <;> rfl
noncomputable def runsF (x : Bas) : List Opn → Bas × List Obn
 | [] => (x, [])
 | o :: r => let y := runF x o; let z := runsF y.1 r; (z.1, y.2 :: z.2)
theorem runsF_snoc (x : Bas) : ∀ (us : List Opn) (o : Opn), runsF x (us ++ [o]) = ((runF (runsF x us).1 o).1, (runsF x us).2 ++ [(runF (runsF x us).1 o).2])
 | [], o => rfl
 | u :: r, o => by
   show ((runsF (runF x u).1 (r ++ [o])).1, (runF x u).2 :: (runsF (runF x u).1 (r ++ [o])).2) = _
   rw [runsF_snoc (runF x u).1 r o]
   rfl
theorem runsF_len (x : Bas) : ∀ us : List Opn, (runsF x us).2.length = us.length
 | [] => rfl
 | u :: r => by
   show ((runF x u).2 :: (runsF (runF x u).1 r).2).length = _
   rw [List.length_cons, List.length_cons, runsF_len (runF x u).1 r]
def bas0 : Bas := ⟨0, [], [], [tx0, tx0, tx0, tx0]⟩
theorem bndN0 : BndN 0 bas0 := ⟨⟨by decide, by decide⟩, by simp [bas0], by simp [bas0], by simp [bas0], by simp [bas0], by simp [bas0, tx0], by simp [bas0, tx0], by simp [bas0, tx0]⟩
theorem bnd_runs : ∀ (us : List Opn) (m : Nat) (x : Bas), BndN m x → BndN (m + us.length) (runsF x us).1
 | [], m, x, h => h
 | u :: r, m, x, h => by
   have := bnd_runs r (m + 1) (runF x u).1 (bnd_run h u)
   rw [show m + (u :: r).length = m + 1 + r.length by rw [List.length_cons]; omega]
   exact this
theorem commit_tx4 (x : Bas) (i : Nat) : (commitF x i).1.tx.length = x.tx.length := by
 unfold commitF
 simp only
 split
 ·simp
 split <;> simp
theorem saves_tx4 (x : Bas) (i : Nat) (o : Opn) : (savesF x i o).1.tx.length = x.tx.length := by
 unfold savesF
 simp only
 split
 ·split <;> simp
 ·split
  ·rfl
  ·split <;> simp
theorem run_tx4 (x : Bas) (o : Opn) : (runF x o).1.tx.length = x.tx.length := by
 unfold runF
 split
 ·rfl
 simp only
 split
 ·rfl
 split
 ·rfl
 split
 ·split
  ·rfl
  ·simp
 split
 ·simp
 split
 ·simp
 split
 ·simp
 split
 ·exact commit_tx4 _ _
 split
 ·simp
 ·exact saves_tx4 _ _ _
theorem runs_tx4 : ∀ (us : List Opn) (x : Bas), (runsF x us).1.tx.length = x.tx.length
 | [], x => rfl
 | u :: r, x => (runs_tx4 r (runF x u).1).trans (run_tx4 x u)
theorem runs_ps : ∀ (us : List Opn) (m : Nat) (x : Bas), BndN m x → m + us.length ≤ 1000 → x.tx.length = 4 → ∀ t ∈ (runsF x us).2, t.ps.length ≤ 1048576
 | [], m, x, _, _, _ => by simp [runsF]
 | u :: r, m, x, h, hm, hx => by
   intro t ht
   rw [List.length_cons] at hm
   have ht2 : t ∈ (runF x u).2 :: (runsF (runF x u).1 r).2 := ht
   rcases List.mem_cons.1 ht2 with z | z
   ·rw [z]; exact run_ps h (by omega) hx u
   ·exact runs_ps r (m + 1) (runF x u).1 (bnd_run h u) (by omega) ((run_tx4 x u).trans hx) t z
noncomputable def txnL (us : List Opn) : List Obn := if 1000 < us.length then [] else (runsF bas0 us).2
noncomputable def txnC (us : List Opn) : Int := if 1000 < us.length then 5 else 0
theorem infoTx : (Tryz.prog.info? 70).map (fun i => (i.zero, i.size, i.bytes)) = some (some (.agg #[.bool false, .int .i64 0, .int .i64 0, .slice none 0 0, .slice none 0 0, .slice none 0 0]), 6, 96) := by kernel_rfl
theorem mk4 (W : World) : (Instr.makeSlice 62 (.int .i64 4) (.int .i64 4)).run Tryz.prog W = .ok (.slice (some ⟨W.heap.size, 0, none⟩) 4 4) (W.alloc (.cells #[.bool false, .int .i64 0, .int .i64 0, .slice none 0 0, .slice none 0 0, .slice none 0 0, .bool false, .int .i64 0, .int .i64 0, .slice none 0 0, .slice none 0 0, .slice none 0 0, .bool false, .int .i64 0, .int .i64 0, .slice none 0 0, .slice none 0 0, .slice none 0 0, .bool false, .int .i64 0, .int .i64 0, .slice none 0 0, .slice none 0 0, .slice none 0 0] 70)) := by
 obtain ⟨i0, hi, hz0, hz1, hz2⟩ := info_parts infoTx
 have h := run_makeSlice W 62 70 i0 _ Tryz.underlying62 hi hz0 .i64 .i64 4 4 (by decide) (by decide) (by rw [hz1]; decide) (by rw [hz2]; decide) (by decide)
 rw [hz1] at h
 have e : madeCells (Value.agg #[.bool false, .int .i64 0, .int .i64 0, .slice none 0 0, .slice none 0 0, .slice none 0 0]).cells (Int.toNat 4 * 6) = #[.bool false, .int .i64 0, .int .i64 0, .slice none 0 0, .slice none 0 0, .slice none 0 0, .bool false, .int .i64 0, .int .i64 0, .slice none 0 0, .slice none 0 0, .slice none 0 0, .bool false, .int .i64 0, .int .i64 0, .slice none 0 0, .slice none 0 0, .slice none 0 0, .bool false, .int .i64 0, .int .i64 0, .slice none 0 0, .slice none 0 0, .slice none 0 0] := by first | rfl | kernel_rfl | decide
 rw [e] at h
 exact h
def z3 : Value × Value × Value := (.slice none 0 0, .slice none 0 0, .slice none 0 0)
theorem mem0 (w : World) : Mem w.heap.size (w.heap.size + 1) w.heap.size (((w.alloc (.cells #[.bool false, .int .i64 0, .int .i64 0, .slice none 0 0, .slice none 0 0, .slice none 0 0, .bool false, .int .i64 0, .int .i64 0, .slice none 0 0, .slice none 0 0, .slice none 0 0, .bool false, .int .i64 0, .int .i64 0, .slice none 0 0, .slice none 0 0, .slice none 0 0, .bool false, .int .i64 0, .int .i64 0, .slice none 0 0, .slice none 0 0, .slice none 0 0] 70)).alloc (.cells #[.int .i64 0, .slice none 0 0, .slice none 0 0, .slice (some ⟨w.heap.size, 0, none⟩) 4 4] 65)).alloc (.cells #[] 38)) bas0 (.slice none 0 0) (.slice none 0 0) [z3, z3, z3, z3] ∧ Below w.heap.size w (((w.alloc (.cells #[.bool false, .int .i64 0, .int .i64 0, .slice none 0 0, .slice none 0 0, .slice none 0 0, .bool false, .int .i64 0, .int .i64 0, .slice none 0 0, .slice none 0 0, .slice none 0 0, .bool false, .int .i64 0, .int .i64 0, .slice none 0 0, .slice none 0 0, .slice none 0 0, .bool false, .int .i64 0, .int .i64 0, .slice none 0 0, .slice none 0 0, .slice none 0 0] 70)).alloc (.cells #[.int .i64 0, .slice none 0 0, .slice none 0 0, .slice (some ⟨w.heap.size, 0, none⟩) 4 4] 65)).alloc (.cells #[] 38)) ∧ AnR w.heap.size (((w.alloc (.cells #[.bool false, .int .i64 0, .int .i64 0, .slice none 0 0, .slice none 0 0, .slice none 0 0, .bool false, .int .i64 0, .int .i64 0, .slice none 0 0, .slice none 0 0, .slice none 0 0, .bool false, .int .i64 0, .int .i64 0, .slice none 0 0, .slice none 0 0, .slice none 0 0, .bool false, .int .i64 0, .int .i64 0, .slice none 0 0, .slice none 0 0, .slice none 0 0] 70)).alloc (.cells #[.int .i64 0, .slice none 0 0, .slice none 0 0, .slice (some ⟨w.heap.size, 0, none⟩) 4 4] 65)).alloc (.cells #[] 38)) (.slice (some ⟨w.heap.size + 1 + 1, 0, none⟩) 0 0) [] := by
 have b1 : Below w.heap.size w (((w.alloc (.cells #[.bool false, .int .i64 0, .int .i64 0, .slice none 0 0, .slice none 0 0, .slice none 0 0, .bool false, .int .i64 0, .int .i64 0, .slice none 0 0, .slice none 0 0, .slice none 0 0, .bool false, .int .i64 0, .int .i64 0, .slice none 0 0, .slice none 0 0, .slice none 0 0, .bool false, .int .i64 0, .int .i64 0, .slice none 0 0, .slice none 0 0, .slice none 0 0] 70)).alloc (.cells #[.int .i64 0, .slice none 0 0, .slice none 0 0, .slice (some ⟨w.heap.size, 0, none⟩) 4 4] 65)).alloc (.cells #[] 38)) := ((below_alloc w _).alloc (by simp) _).alloc (by simp; omega) _
 have e1 : (w.alloc (.cells #[.bool false, .int .i64 0, .int .i64 0, .slice none 0 0, .slice none 0 0, .slice none 0 0, .bool false, .int .i64 0, .int .i64 0, .slice none 0 0, .slice none 0 0, .slice none 0 0, .bool false, .int .i64 0, .int .i64 0, .slice none 0 0, .slice none 0 0, .slice none 0 0, .bool false, .int .i64 0, .int .i64 0, .slice none 0 0, .slice none 0 0, .slice none 0 0] 70)).heap.size = w.heap.size + 1 := by simp
 have k1 := blk_new w [.bool false, .int .i64 0, .int .i64 0, .slice none 0 0, .slice none 0 0, .slice none 0 0, .bool false, .int .i64 0, .int .i64 0, .slice none 0 0, .slice none 0 0, .slice none 0 0, .bool false, .int .i64 0, .int .i64 0, .slice none 0 0, .slice none 0 0, .slice none 0 0, .bool false, .int .i64 0, .int .i64 0, .slice none 0 0, .slice none 0 0, .slice none 0 0] 70
 have g1 := tag_new w [.bool false, .int .i64 0, .int .i64 0, .slice none 0 0, .slice none 0 0, .slice none 0 0, .bool false, .int .i64 0, .int .i64 0, .slice none 0 0, .slice none 0 0, .slice none 0 0, .bool false, .int .i64 0, .int .i64 0, .slice none 0 0, .slice none 0 0, .slice none 0 0, .bool false, .int .i64 0, .int .i64 0, .slice none 0 0, .slice none 0 0, .slice none 0 0] 70
 have k2 := blk_new (w.alloc (.cells #[.bool false, .int .i64 0, .int .i64 0, .slice none 0 0, .slice none 0 0, .slice none 0 0, .bool false, .int .i64 0, .int .i64 0, .slice none 0 0, .slice none 0 0, .slice none 0 0, .bool false, .int .i64 0, .int .i64 0, .slice none 0 0, .slice none 0 0, .slice none 0 0, .bool false, .int .i64 0, .int .i64 0, .slice none 0 0, .slice none 0 0, .slice none 0 0] 70)) [.int .i64 0, .slice none 0 0, .slice none 0 0, .slice (some ⟨w.heap.size, 0, none⟩) 4 4] 65
 have g2 := tag_new (w.alloc (.cells #[.bool false, .int .i64 0, .int .i64 0, .slice none 0 0, .slice none 0 0, .slice none 0 0, .bool false, .int .i64 0, .int .i64 0, .slice none 0 0, .slice none 0 0, .slice none 0 0, .bool false, .int .i64 0, .int .i64 0, .slice none 0 0, .slice none 0 0, .slice none 0 0, .bool false, .int .i64 0, .int .i64 0, .slice none 0 0, .slice none 0 0, .slice none 0 0] 70)) [.int .i64 0, .slice none 0 0, .slice none 0 0, .slice (some ⟨w.heap.size, 0, none⟩) 4 4] 65
 rw [e1] at k2 g2
 refine ⟨⟨rfl, rfl, k2.below (below_alloc _ _) (by simp), tag_below g2 (below_alloc _ _), Nat.le_succ _, ⟨fun l hl => ?_, ?_⟩, tag_below (tag_below g1 (below_alloc _ _)) (below_alloc _ _), Nat.le_refl _, fun i hi hi' => ?_, fun i j hi hj hn g hg => ?_, ⟨[], rfl, World.ownsRow_nil _ _ _ _, by simp⟩, ⟨[], rfl, World.ownsRow_nil _ _ _ _, by simp⟩⟩, b1, ?_⟩
 ·simp [bas0, txV] at hl
  subst hl
  rfl
 ·exact (k1.below (below_alloc _ _) (by simp)).below (below_alloc _ _) (by simp; omega)
 ·have hv : [z3, z3, z3, z3][i] = z3 := by
   have : i < 4 := hi'
   match i, this with
   | 0, _ => rfl
   | 1, _ => rfl
   | 2, _ => rfl
   | 3, _ => rfl
  have key : ∀ (W : World), TxM w.heap.size W (bas0.tx[i]'hi) ([z3, z3, z3, z3][i]'hi') := fun W => by
   rw [hv]
   have : i < 4 := hi
   match i, this with
   | 0, _ => exact txm0 _ _
   | 1, _ => exact txm0 _ _
   | 2, _ => exact txm0 _ _
   | 3, _ => exact txm0 _ _
  exact key _
 ·have hv : [z3, z3, z3, z3][i] = z3 := by
   have : i < 4 := hi
   match i, this with
   | 0, _ => rfl
   | 1, _ => rfl
   | 2, _ => rfl
   | 3, _ => rfl
  rw [hv] at hg
  simp [z3, Value.ownBlock] at hg
 ·refine ⟨?_, fun x hx => by simp at hx, List.Pairwise.nil⟩
  have := World.ownsRow_made (base := w.heap.size) (e := 38) (size := 5) ((w.alloc (.cells #[.bool false, .int .i64 0, .int .i64 0, .slice none 0 0, .slice none 0 0, .slice none 0 0, .bool false, .int .i64 0, .int .i64 0, .slice none 0 0, .slice none 0 0, .slice none 0 0, .bool false, .int .i64 0, .int .i64 0, .slice none 0 0, .slice none 0 0, .slice none 0 0, .bool false, .int .i64 0, .int .i64 0, .slice none 0 0, .slice none 0 0, .slice none 0 0] 70)).alloc (.cells #[.int .i64 0, .slice none 0 0, .slice none 0 0, .slice (some ⟨w.heap.size, 0, none⟩) 4 4] 65)) #[] 0 (by simp; omega) (by unfold maxLen; omega) (by simp)
  simpa using this
set_option maxHeartbeats 8000000 in
theorem txnRun_spec (us : List Opn) : TxnOf 8 us (txnL us) (txnC us) := by
 intro w a c hv
 by_cases hbig : 1000 < us.length
 ·have hbi : (1000 : Int) < us.length := by omega
  have HF : Hid (TxnA (txnL us) (txnC us) w (.returned (.tuple #[.slice (some ⟨w.heap.size, 0, none⟩) 0 0, .int .i64 5])) (w.alloc (.cells #[] 38))) := hid (by
   have e1 : txnL us = [] := by unfold txnL; rw [if_pos hbig]
   have e2 : txnC us = 5 := by unfold txnC; rw [if_pos hbig]
   rw [e1, e2]
   refine ⟨_, [], rfl, ⟨?_, fun x hx => by simp at hx, List.Pairwise.nil⟩, ⟨_, _, rfl, fun h => absurd h (by simp)⟩, below_alloc _ _, by simp, fun x hx => by simp at hx, rfl⟩
   have := World.ownsRow_made (base := w.heap.size) (e := 38) (size := 5) w #[] 0 (by simp) (by unfold maxLen; omega) (by simp)
   simpa using this)
  clear hv hbig
  go_enter Tryz.func8, Tryz.ntmps8
  go_wp2
  all_goals first | (exfalso; go_light; omega) | skip
  go_ret2
  exact HF.out
 obtain ⟨i0, hi, hz0, hz1, hz2⟩ := info_parts infoObs
 have hbi : ¬ (1000 : Int) < us.length := by omega
 have e1 : txnL us = (runsF bas0 us).2 := by unfold txnL; rw [if_neg hbig]
 have e2 : txnC us = 0 := by unfold txnC; rw [if_neg hbig]
 rw [e1, e2]
 clear e1 e2
 obtain ⟨M0, B0, A0⟩ := mem0 w
 obtain ⟨W1, hW1⟩ : ∃ z, z = (((w.alloc (.cells #[.bool false, .int .i64 0, .int .i64 0, .slice none 0 0, .slice none 0 0, .slice none 0 0, .bool false, .int .i64 0, .int .i64 0, .slice none 0 0, .slice none 0 0, .slice none 0 0, .bool false, .int .i64 0, .int .i64 0, .slice none 0 0, .slice none 0 0, .slice none 0 0, .bool false, .int .i64 0, .int .i64 0, .slice none 0 0, .slice none 0 0, .slice none 0 0] 70)).alloc (.cells #[.int .i64 0, .slice none 0 0, .slice none 0 0, .slice (some ⟨w.heap.size, 0, none⟩) 4 4] 65)).alloc (.cells #[] 38)) := ⟨_, rfl⟩
 rw [← hW1] at M0 B0 A0
 have HM0 := hid M0
 have HA0 := hid A0
 obtain ⟨a', cap', hsl, hcells⟩ := hv
 simp only [Value.slice.injEq] at hsl
 obtain ⟨rfl, _, rfl⟩ := hsl
 have hmk := mk4
 have HW := hid hW1
 clear M0 A0 hW1
 go_enter Tryz.func8, Tryz.ntmps8
 go_wp2
 all_goals first | (exfalso; go_light; omega) | skip
 rw [← HW.out]
 clear HW hmk
 go_loopw [5, 18] (fun pv iv wr => ∃ (k : Nat) (ps : List (Value × Obn)) (pa : Option Addr) (pc : Nat) (cv hv : Value) (vs : List (Value × Value × Value)), k ≤ us.length ∧ iv = .int .i64 k ∧ pv = .slice pa ps.length pc ∧ Hid (ps.map Prod.snd = (runsF bas0 (us.take k)).2) ∧ Hid (Mem w.heap.size (w.heap.size + 1) w.heap.size wr (runsF bas0 (us.take k)).1 cv hv vs) ∧ Hid (AnR w.heap.size wr (.slice pa ps.length pc) ps) ∧ Below w.heap.size w wr) (fun _ iv _ => us.length - (intOf iv).toNat)
 case atStart => exact ⟨0, [], _, 0, _, _, _, Nat.zero_le _, rfl, rfl, hid rfl, HM0, HA0, B0⟩
 case round =>
  clear HM0 HA0 B0
  obtain ⟨k, ps, pa, pc, cv, hv, vs, hk, rfl, rfl, HPS, HM, HA, hbel⟩ := hrel
  have hbs := hbel.size
  have hpl : ps.length = k := by
   have := congrArg List.length HPS.out
   rw [List.length_map, runsF_len, List.length_take] at this
   omega
  have HPL := hid hpl
  clear hpl
  by_cases hlt : k < us.length
  ·have hlti : (k : Int) < us.length := by omega
   obtain ⟨g, o, rfl, _, hg, hgc⟩ := hcells (by omega)
   obtain ⟨cs, hC, hcell⟩ := hgc k hlt
   have hbn : BndN k (runsF bas0 (us.take k)).1 := by
    have := bnd_runs (us.take k) 0 bas0 bndN0
    rw [List.length_take, Nat.min_eq_left hk, Nat.zero_add] at this
    exact this
   have HTK : Hid (runsF bas0 (us.take (k + 1)) = ((runF (runsF bas0 (us.take k)).1 us[k]).1, (runsF bas0 (us.take k)).2 ++ [(runF (runsF bas0 (us.take k)).1 us[k]).2])) := hid (by
    rw [show us.take (k + 1) = us.take k ++ [us[k]] by rw [List.take_add_one, List.getElem?_eq_getElem hlt]; rfl]
    exact runsF_snoc _ _ _)
   clear hgc hcells
   unfold CO at hC
   subst hC
   generalize us[k] = t at *
   have hx4 : (runsF bas0 (us.take k)).1.tx.length = 4 := runs_tx4 _ _
   have hru := run_spec w.heap.size (w.heap.size + 1) w.heap.size (runsF bas0 (us.take k)).1 t cv hv vs (wr.alloc (.cells #[.int .i64 t.kd, .int .i64 t.ss, .int .i64 t.tb, .int .i64 t.ky, .int .i64 t.vl, .int .i64 t.md, .string t.nm] 41)) (HM.out.below (below_alloc _ _)) (hbn.bnd (by omega)) (by simp; omega)
   unfold RunP at hru
   have HPSB := hid (run_ps hbn (by omega) hx4 t)
   clear hbn hx4
   obtain ⟨ry, hry⟩ : ∃ z, z = runF (runsF bas0 (us.take k)).1 t := ⟨_, rfl⟩
   rw [← hry] at hru HTK HPSB
   clear hry
   obtain ⟨y, ob⟩ := ry
   simp only at hru HTK HPSB
   have c0 : wr.cell? ⟨g, o + k * 7, none⟩ = some (.int .i64 t.kd) := (hbel.cell (p := ⟨g, o + k * 7, none⟩) hg).trans (hcell 0 (by omega))
   have c1 : wr.cell? ⟨g, o + k * 7 + 1, none⟩ = some (.int .i64 t.ss) := (hbel.cell (p := ⟨g, o + k * 7 + 1, none⟩) hg).trans (hcell 1 (by omega))
   have c2 : wr.cell? ⟨g, o + k * 7 + 2, none⟩ = some (.int .i64 t.tb) := (hbel.cell (p := ⟨g, o + k * 7 + 2, none⟩) hg).trans (hcell 2 (by omega))
   have c3 : wr.cell? ⟨g, o + k * 7 + 3, none⟩ = some (.int .i64 t.ky) := (hbel.cell (p := ⟨g, o + k * 7 + 3, none⟩) hg).trans (hcell 3 (by omega))
   have c4 : wr.cell? ⟨g, o + k * 7 + 4, none⟩ = some (.int .i64 t.vl) := (hbel.cell (p := ⟨g, o + k * 7 + 4, none⟩) hg).trans (hcell 4 (by omega))
   have c5 : wr.cell? ⟨g, o + k * 7 + 5, none⟩ = some (.int .i64 t.md) := (hbel.cell (p := ⟨g, o + k * 7 + 5, none⟩) hg).trans (hcell 5 (by omega))
   have c6 : wr.cell? ⟨g, o + k * 7 + 6, none⟩ = some (.string t.nm) := (hbel.cell (p := ⟨g, o + k * 7 + 6, none⟩) hg).trans (hcell 6 (by omega))
   clear hcell
   go_wp2_with (go_at_call 21; fail)
   refine hru.mono ?_
   rintro e w3 ⟨cv3, hv3, vs3, pv, rfl, hG3, hM3, hK3, hB3⟩
   obtain ⟨qa, qc, hpv⟩ := formR hG3
   subst hpv
   clear hru c0 c1 c2 c3 c4 c5 c6
   have hk0 : Keep wr w3 := (Keep.of_below (below_alloc _ _)).trans hK3
   have bw3 : Below w.heap.size w w3 := (hbel.alloc hbs _).trans hB3
   have hsz3 : wr.heap.size + 1 ≤ w3.heap.size := by have := hK3.1; simpa using this
   have HA3 := hid (HA.out.keep hk0)
   have HG3 : Hid (Gr pairV 92 2 w.heap.size w3 (.slice qa ob.ps.length qc) ob.ps) := hid (own_bs hG3 (by simp; omega))
   have HNB : Hid (∀ c, (Value.slice qa ob.ps.length qc).ownBlock = some c → ∀ x ∈ ps, x.1.ownBlock ≠ some c) := hid (fun c hc x hx he => by
    have h1 := (hG3.lt c hc).1
    have h2 := (HA.out.2.1 x hx).lt c he
    simp at h1
    omega)
   have HMA := hid (hM3.below (below_alloc w3 (.cells #[.int .i64 ob.code, .int .i64 ob.vl, .int .i64 ob.st, .bool ob.fd, .slice qa ob.ps.length qc] 38)))
   have HAA := hid (HA3.out.below (below_alloc w3 (.cells #[.int .i64 ob.code, .int .i64 ob.vl, .int .i64 ob.st, .bool ob.fd, .slice qa ob.ps.length qc] 38)))
   have HGA := hid (HG3.out.below (below_alloc w3 (.cells #[.int .i64 ob.code, .int .i64 ob.vl, .int .i64 ob.st, .bool ob.fd, .slice qa ob.ps.length qc] 38)))
   have bwA := bw3.alloc bw3.size (.cells #[.int .i64 ob.code, .int .i64 ob.vl, .int .i64 ob.st, .bool ob.fd, .slice qa ob.ps.length qc] 38)
   have hpl2 : ps.length ≤ 1000 := by have := HPL.out; omega
   clear hG3 hM3 hK3 hB3 HM HA HA3 HG3 hk0
   go_wp2_with (at_builtin; go_loud (refine wpList_append_own _ rfl (.tmp 22) (.tmp 26) 29 rfl w.heap.size 38 i0 _ 5 56 Tryz.underlying29 hi hz0 hz1 hz2 rfl (by decide) (.slice pa ps.length pc) ps.length (ps.flatMap obC) rfl HAA.out.1 ⟨w3.heap.size, 0, none⟩ 1 1 (obC (.slice qa ob.ps.length qc, ob)) rfl rfl (cells_new _ (obC (.slice qa ob.ps.length qc, ob)) 38 _ (by simp)) (oneOb rfl) (by unfold maxLen; omega) (by omega) (by simp; omega) ?_; intro v' w' hown hgrow _; obtain ⟨na, nc, hvn⟩ := formR hown; subst hvn; have HAN : Hid (AnR w.heap.size w' (.slice na (ps.length + 1) nc) (ps ++ [(.slice qa ob.ps.length qc, ob)])) := HAA.out.push hgrow hown HGA.out HNB.out; have HMN := hid (HMA.out.chg (Chg.grown (T := fun ty => ty = 38) hgrow (fun g hg => ⟨_, rfl, own_tag HAA.out.1 hg⟩)) (fun ty h => .inl h)); have bwN : Below w.heap.size w w' := bwA.grown hgrow bwA.size (fun q hq => (HAA.out.1.lt q hq).1); clear hown hgrow))
   go_roundw
   case rel => exact ⟨k + 1, ps ++ [(.slice qa ob.ps.length qc, ob)], na, nc, _, _, _, by omega, by go_num, by simp, hid (by rw [HTK.out, List.map_append, HPS.out]; rfl), hid (by rw [HTK.out]; exact HMN.out), hid (by simpa using HAN.out), bwN⟩
   case measure => simp [intOf]; omega
  ·have hkn : k = us.length := by omega
   subst hkn
   have hlti : ¬ (us.length : Int) < us.length := by omega
   rw [List.take_length] at HPS
   have HF : Hid (TxnA (runsF bas0 us).2 0 w (.returned (.tuple #[.slice pa ps.length pc, .int .i64 0])) wr) := hid (by
    have hps : ∀ x ∈ ps, x.2.ps.length ≤ 1048576 := fun x hx => runs_ps us 0 bas0 bndN0 (by omega) rfl x.2 (by rw [← HPS.out]; exact List.mem_map_of_mem hx)
    exact ⟨_, ps, rfl, HA.out, by rw [← HPS.out]; exact HA.out.rs, hbel, by have := HPL.out; omega, hps, HPS.out⟩)
   clear HPS HM HA HPL hcells
   go_wp2
   go_ret2
   exact HF.out
theorem run_copy_rowK {P : Program} (w : World) (dT sT ty elem : TypeId) (K g o dLen dCap : Nat) (a : Addr) (sLen sCap : Nat) (cur : Array Value) (t : TypeId) (cs : List Value)
 (hu : P.underlying dT = some (.slice elem)) (hs : (P.info? elem).map (·.size) = some K)
 (hg : w.heap[g]? = some (.cells cur t (0, 0))) (hn : cs.length = Nat.min sLen dLen * K)
 (hsrc : ∀ j v, cs[j]? = some v → w.cell? (a.add j) = some v) (hfit : o + cs.length ≤ cur.size) (h1 : ∀ v ∈ cs, v.oneCell' = true) :
 (Builtin.copy_ #[dT, sT] ty #[.slice (some ⟨g, o, none⟩) dLen dCap, .slice (some a) sLen sCap]).run P w =
  .ok (goInt (Nat.min sLen dLen)) (w.setRow g (cur.toList.take o ++ cs ++ cur.toList.drop (o + cs.length)).toArray) := by
 have hl := run_loadCells_list (P := P) w a cs hsrc
 have hst := run_storeCells_at P g o t cs 0 cur w hg (by simpa using hfit) h1
 cases hq : P.info? elem with
 | none => simp [hq] at hs
 | some i =>
   have hi : i.size = K := by simpa [hq] using hs
   simp [Builtin.copy_, run_underlying hu, Builtin.lenOf, Builtin.firstCells, sizeOf, typeInfo, hq, hi, ← hn, hl, hst]
theorem grown_setRow (w : World) (g : Nat) (cs : Array Value) : w.grownBy (w.setRow g cs) (some g) :=
 ⟨rfl, rfl, rfl, by simp, fun k _ hk => setRow_other w g k cs (fun e => hk (by rw [e]))⟩
def InsP (B e K : Nat) (w : World) (v : Value) (n : Nat) (ys : List Value) (en : Ending) (w' : World) : Prop := ∃ a c, en = .returned (.slice a (n + 1) c) ∧ w'.ownsRow B e K (.slice a (n + 1) c) (n + 1) ys ∧ w.grownBy w' v.ownBlock ∧ ∀ g, (Value.slice a (n + 1) c).ownBlock = some g → v.ownBlock = some g ∨ w.heap.size ≤ g
theorem ins_list {α : Type} {cur1 cur : List α} {xs vs : List α} {i n K : Nat} (hi : i < n) (hv : vs.length = K) (hx : xs.length = n * K) (hc : cur.take (n * K) = xs) (hl : (n + 1) * K ≤ cur.length) (h1 : cur1 = cur.take ((i + 1) * K) ++ xs.drop (i * K) ++ cur.drop ((i + 1) * K + (xs.drop (i * K)).length)) :
 (cur1.take (i * K) ++ vs ++ cur1.drop (i * K + vs.length)).take ((n + 1) * K) = xs.take (i * K) ++ vs ++ xs.drop (i * K) ∧ (cur1.take (i * K) ++ vs ++ cur1.drop (i * K + vs.length)).length = cur.length ∧ cur1.length = cur.length := by
 have e1 : (i + 1) * K = i * K + K := by rw [Nat.add_mul, Nat.one_mul]
 have e2 : (n + 1) * K = n * K + K := by rw [Nat.add_mul, Nat.one_mul]
 have e3 : i * K + K ≤ n * K := by rw [← e1]; exact Nat.mul_le_mul_right _ hi
 have hdl : (xs.drop (i * K)).length = n * K - i * K := by rw [List.length_drop, hx]
 have ht1 : (cur.take ((i + 1) * K)).length = i * K + K := by rw [List.length_take]; omega
 have hl1 : cur1.length = cur.length := by
  rw [h1, List.length_append, List.length_append, ht1, hdl, List.length_drop]
  omega
 have hA : cur1.take (i * K) = xs.take (i * K) := by
  rw [h1, List.append_assoc, List.take_append_of_le_length (by omega), List.take_take, Nat.min_eq_left (by omega), ← hc, List.take_take, Nat.min_eq_left (by omega)]
 have hD : cur1.drop (i * K + vs.length) = xs.drop (i * K) ++ cur.drop (n * K + K) := by
  rw [h1, hv, List.append_assoc, List.drop_append_of_le_length (by omega), List.drop_of_length_le (by omega), List.nil_append, hdl, e1]
  congr 2
  omega
 rw [hA, hD]
 have hxt : (xs.take (i * K)).length = i * K := by rw [List.length_take]; omega
 refine ⟨?_, ?_, hl1⟩
 ·rw [← List.append_assoc, List.take_append_of_le_length (by simp only [List.length_append, hxt, hdl, hv]; omega), List.take_of_length_le (by simp only [List.length_append, hxt, hdl, hv]; omega)]
 ·simp only [List.length_append, hxt, hdl, hv, List.length_drop]
  omega
end Go.Proofs.YtblkgicbimflhaaGreat
