import Derived.Test.YtblkgicbimflhaaGreatSAR
import Derived.Test.YtblkgicbimflhaaGreatSBE
import Derived.Test.YtblkgicbimflhaaGreatSBG
namespace Go.Proofs.YtblkgicbimflhaaGreat
open Go.ChangeShapes Go.WideShapes Go.ChangeAt Go.RowKit
set_option linter.unusedVariables false
set_option linter.unusedSimpArgs false
set_option maxRecDepth 100000
set_option maxHeartbeats 16000000
theorem infoTx : (Tryz.prog.info? 70).map (fun i => (i.zero, i.size, i.bytes)) = some (some (.agg #[.bool false, .int .i64 0, .int .i64 0, .slice none 0 0, .slice none 0 0, .slice none 0 0]), 6, 96) := by kernel_rfl
theorem mk4 (W : World) : (Instr.makeSlice 62 (.int .i64 4) (.int .i64 4)).run Tryz.prog W = .ok (.slice (some ⟨W.heap.size, 0, none⟩) 4 4) (W.alloc (.cells #[.bool false, .int .i64 0, .int .i64 0, .slice none 0 0, .slice none 0 0, .slice none 0 0, .bool false, .int .i64 0, .int .i64 0, .slice none 0 0, .slice none 0 0, .slice none 0 0, .bool false, .int .i64 0, .int .i64 0, .slice none 0 0, .slice none 0 0, .slice none 0 0, .bool false, .int .i64 0, .int .i64 0, .slice none 0 0, .slice none 0 0, .slice none 0 0] 70)) := by
 obtain ⟨i0, hi, hz0, hz1, hz2⟩ := info_parts infoTx
 have h := run_makeSlice W 62 70 i0 _ Tryz.underlying62 hi hz0 .i64 .i64 4 4 (by decide) (by decide) (by rw [hz1]; decide) (by rw [hz2]; decide) (by decide)
 rw [hz1] at h
 have e : madeCells (Value.agg #[.bool false, .int .i64 0, .int .i64 0, .slice none 0 0, .slice none 0 0, .slice none 0 0]).cells (Int.toNat 4 * 6) = #[.bool false, .int .i64 0, .int .i64 0, .slice none 0 0, .slice none 0 0, .slice none 0 0, .bool false, .int .i64 0, .int .i64 0, .slice none 0 0, .slice none 0 0, .slice none 0 0, .bool false, .int .i64 0, .int .i64 0, .slice none 0 0, .slice none 0 0, .slice none 0 0, .bool false, .int .i64 0, .int .i64 0, .slice none 0 0, .slice none 0 0, .slice none 0 0] := by first | rfl | kernel_rfl | decide
 rw [e] at h
 exact h
def z3 : Value × Value × Value := (.slice none 0 0, .slice none 0 0, .slice none 0 0)
theorem mem0 (w : World) : Mem w.heap.size (w.heap.size + 1) w.heap.size (((w.alloc (.cells #[.bool false, .int .i64 0, .int .i64 0, .slice none 0 0, .slice none 0 0, .slice none 0 0, .bool false, .int .i64 0, .int .i64 0, .slice none 0 0, .slice none 0 0, .slice none 0 0, .bool false, .int .i64 0, .int .i64 0, .slice none 0 0, .slice none 0 0, .slice none 0 0, .bool false, .int .i64 0, .int .i64 0, .slice none 0 0, .slice none 0 0, .slice none 0 0] 70)).alloc (.cells #[.int .i64 0, .slice none 0 0, .slice none 0 0, .slice (some ⟨w.heap.size, 0, none⟩) 4 4] 65)).alloc (.cells #[] 38)) bas0 (.slice none 0 0) (.slice none 0 0) [z3, z3, z3, z3] /\ Below w.heap.size w (((w.alloc (.cells #[.bool false, .int .i64 0, .int .i64 0, .slice none 0 0, .slice none 0 0, .slice none 0 0, .bool false, .int .i64 0, .int .i64 0, .slice none 0 0, .slice none 0 0, .slice none 0 0, .bool false, .int .i64 0, .int .i64 0, .slice none 0 0, .slice none 0 0, .slice none 0 0, .bool false, .int .i64 0, .int .i64 0, .slice none 0 0, .slice none 0 0, .slice none 0 0] 70)).alloc (.cells #[.int .i64 0, .slice none 0 0, .slice none 0 0, .slice (some ⟨w.heap.size, 0, none⟩) 4 4] 65)).alloc (.cells #[] 38)) /\ AnR w.heap.size (((w.alloc (.cells #[.bool false, .int .i64 0, .int .i64 0, .slice none 0 0, .slice none 0 0, .slice none 0 0, .bool false, .int .i64 0, .int .i64 0, .slice none 0 0, .slice none 0 0, .slice none 0 0, .bool false, .int .i64 0, .int .i64 0, .slice none 0 0, .slice none 0 0, .slice none 0 0, .bool false, .int .i64 0, .int .i64 0, .slice none 0 0, .slice none 0 0, .slice none 0 0] 70)).alloc (.cells #[.int .i64 0, .slice none 0 0, .slice none 0 0, .slice (some ⟨w.heap.size, 0, none⟩) 4 4] 65)).alloc (.cells #[] 38)) (.slice (some ⟨w.heap.size + 1 + 1, 0, none⟩) 0 0) [] := by
 have b1 : Below w.heap.size w (((w.alloc (.cells #[.bool false, .int .i64 0, .int .i64 0, .slice none 0 0, .slice none 0 0, .slice none 0 0, .bool false, .int .i64 0, .int .i64 0, .slice none 0 0, .slice none 0 0, .slice none 0 0, .bool false, .int .i64 0, .int .i64 0, .slice none 0 0, .slice none 0 0, .slice none 0 0, .bool false, .int .i64 0, .int .i64 0, .slice none 0 0, .slice none 0 0, .slice none 0 0] 70)).alloc (.cells #[.int .i64 0, .slice none 0 0, .slice none 0 0, .slice (some ⟨w.heap.size, 0, none⟩) 4 4] 65)).alloc (.cells #[] 38)) := ((below_alloc w _).alloc (by simp) _).alloc (by simp; omega) _
 have e1 : (w.alloc (.cells #[.bool false, .int .i64 0, .int .i64 0, .slice none 0 0, .slice none 0 0, .slice none 0 0, .bool false, .int .i64 0, .int .i64 0, .slice none 0 0, .slice none 0 0, .slice none 0 0, .bool false, .int .i64 0, .int .i64 0, .slice none 0 0, .slice none 0 0, .slice none 0 0, .bool false, .int .i64 0, .int .i64 0, .slice none 0 0, .slice none 0 0, .slice none 0 0] 70)).heap.size = w.heap.size + 1 := by simp
 have k1 := blk_new w [.bool false, .int .i64 0, .int .i64 0, .slice none 0 0, .slice none 0 0, .slice none 0 0, .bool false, .int .i64 0, .int .i64 0, .slice none 0 0, .slice none 0 0, .slice none 0 0, .bool false, .int .i64 0, .int .i64 0, .slice none 0 0, .slice none 0 0, .slice none 0 0, .bool false, .int .i64 0, .int .i64 0, .slice none 0 0, .slice none 0 0, .slice none 0 0] 70
 have g1 := tag_new w [.bool false, .int .i64 0, .int .i64 0, .slice none 0 0, .slice none 0 0, .slice none 0 0, .bool false, .int .i64 0, .int .i64 0, .slice none 0 0, .slice none 0 0, .slice none 0 0, .bool false, .int .i64 0, .int .i64 0, .slice none 0 0, .slice none 0 0, .slice none 0 0, .bool false, .int .i64 0, .int .i64 0, .slice none 0 0, .slice none 0 0, .slice none 0 0] 70
 have k2 := blk_new (w.alloc (.cells #[.bool false, .int .i64 0, .int .i64 0, .slice none 0 0, .slice none 0 0, .slice none 0 0, .bool false, .int .i64 0, .int .i64 0, .slice none 0 0, .slice none 0 0, .slice none 0 0, .bool false, .int .i64 0, .int .i64 0, .slice none 0 0, .slice none 0 0, .slice none 0 0, .bool false, .int .i64 0, .int .i64 0, .slice none 0 0, .slice none 0 0, .slice none 0 0] 70)) [.int .i64 0, .slice none 0 0, .slice none 0 0, .slice (some ⟨w.heap.size, 0, none⟩) 4 4] 65
 have g2 := tag_new (w.alloc (.cells #[.bool false, .int .i64 0, .int .i64 0, .slice none 0 0, .slice none 0 0, .slice none 0 0, .bool false, .int .i64 0, .int .i64 0, .slice none 0 0, .slice none 0 0, .slice none 0 0, .bool false, .int .i64 0, .int .i64 0, .slice none 0 0, .slice none 0 0, .slice none 0 0, .bool false, .int .i64 0, .int .i64 0, .slice none 0 0, .slice none 0 0, .slice none 0 0] 70)) [.int .i64 0, .slice none 0 0, .slice none 0 0, .slice (some ⟨w.heap.size, 0, none⟩) 4 4] 65
 rw [e1] at k2 g2
 refine ⟨⟨rfl, rfl, k2.below (below_alloc _ _) (by simp), tag_below g2 (below_alloc _ _), Nat.le_succ _, ⟨fun l hl => ?_, ?_⟩, tag_below (tag_below g1 (below_alloc _ _)) (below_alloc _ _), Nat.le_refl _, fun i hi hi' => ?_, fun i j hi hj hn g hg => ?_, ⟨[], rfl, World.ownsRow_nil _ _ _ _, by simp⟩, ⟨[], rfl, World.ownsRow_nil _ _ _ _, by simp⟩⟩, b1, ?_⟩
 .simp [bas0, txV] at hl
  subst hl
  rfl
 .exact (k1.below (below_alloc _ _) (by simp)).below (below_alloc _ _) (by simp; omega)
 .have hv : [z3, z3, z3, z3][i] = z3 := by
   have : i < 4 := hi'
   match i, this with
   | 0, _ => rfl
   | 1, _ => rfl
   | 2, _ => rfl
   | 3, _ => rfl
  have key : ∀ (W : World), TxM w.heap.size W (bas0.tx[i]'hi) ([z3, z3, z3, z3][i]'hi') := fun W => by
   rw [hv]
   have : i < 4 := hi
   match i, this with
   | 0, _ => exact txm0 _ _
   | 1, _ => exact txm0 _ _
   | 2, _ => exact txm0 _ _
   | 3, _ => exact txm0 _ _
  exact key _
 .have hv : [z3, z3, z3, z3][i] = z3 := by
   have : i < 4 := hi
   match i, this with
   | 0, _ => rfl
   | 1, _ => rfl
   | 2, _ => rfl
   | 3, _ => rfl
  rw [hv] at hg
  simp [z3, Value.ownBlock] at hg
 .refine ⟨?_, fun x hx => by simp at hx, List.Pairwise.nil⟩
  have := World.ownsRow_made (base := w.heap.size) (e := 38) (size := 5) ((w.alloc (.cells #[.bool false, .int .i64 0, .int .i64 0, .slice none 0 0, .slice none 0 0, .slice none 0 0, .bool false, .int .i64 0, .int .i64 0, .slice none 0 0, .slice none 0 0, .slice none 0 0, .bool false, .int .i64 0, .int .i64 0, .slice none 0 0, .slice none 0 0, .slice none 0 0, .bool false, .int .i64 0, .int .i64 0, .slice none 0 0, .slice none 0 0, .slice none 0 0] 70)).alloc (.cells #[.int .i64 0, .slice none 0 0, .slice none 0 0, .slice (some ⟨w.heap.size, 0, none⟩) 4 4] 65)) #[] 0 (by simp; omega) (by unfold maxLen; omega) (by simp)
  simpa using this
theorem txnRun_spec (us : List Opn) : TxnOf 8 us (txnL us) (txnC us) := by
 intro w a c hv
 by_cases hbig : 1000 < us.length
 .have hbi : (1000 : Int) < us.length := by omega
  have HF : Hid (TxnA (txnL us) (txnC us) w (.returned (.tuple #[.slice (some ⟨w.heap.size, 0, none⟩) 0 0, .int .i64 5])) (w.alloc (.cells #[] 38))) := hid (by
   have e1 : txnL us = [] := by unfold txnL; rw [if_pos hbig]
   have e2 : txnC us = 5 := by unfold txnC; rw [if_pos hbig]
   rw [e1, e2]
   refine ⟨_, [], rfl, ⟨?_, fun x hx => by simp at hx, List.Pairwise.nil⟩, ⟨_, _, rfl, fun h => absurd h (by simp)⟩, below_alloc _ _, by simp, fun x hx => by simp at hx, rfl⟩
   have := World.ownsRow_made (base := w.heap.size) (e := 38) (size := 5) w #[] 0 (by simp) (by unfold maxLen; omega) (by simp)
   simpa using this)
  clear hv hbig
  go_enter Tryz.func8, Tryz.ntmps8
  go_wp2
  all_goals first | (exfalso; go_light; omega) | skip
  go_ret2
  exact HF.out
 obtain ⟨i0, hi, hz0, hz1, hz2⟩ := info_parts infoObs
 have hbi : ¬ (1000 : Int) < us.length := by omega
 have e1 : txnL us = (runsF bas0 us).2 := by unfold txnL; rw [if_neg hbig]
 have e2 : txnC us = 0 := by unfold txnC; rw [if_neg hbig]
 rw [e1, e2]
 clear e1 e2
 obtain ⟨M0, B0, A0⟩ := mem0 w
 obtain ⟨W1, hW1⟩ : ∃ z, z = (((w.alloc (.cells #[.bool false, .int .i64 0, .int .i64 0, .slice none 0 0, .slice none 0 0, .slice none 0 0, .bool false, .int .i64 0, .int .i64 0, .slice none 0 0, .slice none 0 0, .slice none 0 0, .bool false, .int .i64 0, .int .i64 0, .slice none 0 0, .slice none 0 0, .slice none 0 0, .bool false, .int .i64 0, .int .i64 0, .slice none 0 0, .slice none 0 0, .slice none 0 0] 70)).alloc (.cells #[.int .i64 0, .slice none 0 0, .slice none 0 0, .slice (some ⟨w.heap.size, 0, none⟩) 4 4] 65)).alloc (.cells #[] 38)) := ⟨_, rfl⟩
 rw [<- hW1] at M0 B0 A0
 have HM0 := hid M0
 have HA0 := hid A0
 obtain ⟨a', cap', hsl, hcells⟩ := hv
 simp only [Value.slice.injEq] at hsl
 obtain ⟨rfl, _, rfl⟩ := hsl
 have hmk := mk4
 have HW := hid hW1
 clear M0 A0 hW1
 go_enter Tryz.func8, Tryz.ntmps8
 go_wp2
 all_goals first | (exfalso; go_light; omega) | skip
 rw [<- HW.out]
 clear HW hmk
 go_loopw [5, 18] (fun pv iv wr => ∃ (k : Nat) (ps : List (Value × Obn)) (pa : Option Addr) (pc : Nat) (cv hv : Value) (vs : List (Value × Value × Value)), k <= us.length /\ iv = .int .i64 k /\ pv = .slice pa ps.length pc /\ Hid (ps.map Prod.snd = (runsF bas0 (us.take k)).2) /\ Hid (Mem w.heap.size (w.heap.size + 1) w.heap.size wr (runsF bas0 (us.take k)).1 cv hv vs) /\ Hid (AnR w.heap.size wr (.slice pa ps.length pc) ps) /\ Below w.heap.size w wr) (fun _ iv _ => us.length - (intOf iv).toNat)
 case atStart => exact ⟨0, [], _, 0, _, _, _, Nat.zero_le _, rfl, rfl, hid rfl, HM0, HA0, B0⟩
 case round =>
  clear HM0 HA0 B0
  obtain ⟨k, ps, pa, pc, cv, hv, vs, hk, rfl, rfl, HPS, HM, HA, hbel⟩ := hrel
  have hbs := hbel.size
  have hpl : ps.length = k := by
   have := congrArg List.length HPS.out
   rw [List.length_map, runsF_len, List.length_take] at this
   omega
  have HPL := hid hpl
  clear hpl
  by_cases hlt : k < us.length
  .have hlti : (k : Int) < us.length := by omega
   obtain ⟨g, o, rfl, _, hg, hgc⟩ := hcells (by omega)
   obtain ⟨cs, hC, hcell⟩ := hgc k hlt
   have hbn : BndN k (runsF bas0 (us.take k)).1 := by
    have := bnd_runs (us.take k) 0 bas0 bndN0
    rw [List.length_take, Nat.min_eq_left hk, Nat.zero_add] at this
    exact this
   have HTK : Hid (runsF bas0 (us.take (k + 1)) = ((runF (runsF bas0 (us.take k)).1 us[k]).1, (runsF bas0 (us.take k)).2 ++ [(runF (runsF bas0 (us.take k)).1 us[k]).2])) := hid (by
    rw [show us.take (k + 1) = us.take k ++ [us[k]] by rw [List.take_add_one, List.getElem?_eq_getElem hlt]; rfl]
    exact runsF_snoc _ _ _)
   clear hgc hcells
   unfold CO at hC
   subst hC
   generalize us[k] = t at *
   have hx4 : (runsF bas0 (us.take k)).1.tx.length = 4 := runs_tx4 _ _
   have hru := run_spec w.heap.size (w.heap.size + 1) w.heap.size (runsF bas0 (us.take k)).1 t cv hv vs (wr.alloc (.cells #[.int .i64 t.kd, .int .i64 t.ss, .int .i64 t.tb, .int .i64 t.ky, .int .i64 t.vl, .int .i64 t.md, .string t.nm] 41)) (HM.out.below (below_alloc _ _)) (hbn.bnd (by omega)) (by simp; omega)
   unfold RunP at hru
   have HPSB := hid (run_ps hbn (by omega) hx4 t)
   clear hbn hx4
   obtain ⟨ry, hry⟩ : ∃ z, z = runF (runsF bas0 (us.take k)).1 t := ⟨_, rfl⟩
   rw [<- hry] at hru HTK HPSB
   clear hry
   obtain ⟨y, ob⟩ := ry
   simp only at hru HTK HPSB
   have c0 : wr.cell? ⟨g, o + k * 7, none⟩ = some (.int .i64 t.kd) := ct hbel hg (hcell 0 (by omega))
   have c1 : wr.cell? ⟨g, o + k * 7 + 1, none⟩ = some (.int .i64 t.ss) := ct hbel hg (hcell 1 (by omega))
   have c2 : wr.cell? ⟨g, o + k * 7 + 2, none⟩ = some (.int .i64 t.tb) := ct hbel hg (hcell 2 (by omega))
   have c3 : wr.cell? ⟨g, o + k * 7 + 3, none⟩ = some (.int .i64 t.ky) := ct hbel hg (hcell 3 (by omega))
   have c4 : wr.cell? ⟨g, o + k * 7 + 4, none⟩ = some (.int .i64 t.vl) := ct hbel hg (hcell 4 (by omega))
   have c5 : wr.cell? ⟨g, o + k * 7 + 5, none⟩ = some (.int .i64 t.md) := ct hbel hg (hcell 5 (by omega))
   have c6 : wr.cell? ⟨g, o + k * 7 + 6, none⟩ = some (.string t.nm) := ct hbel hg (hcell 6 (by omega))
   clear hcell
   go_wp2_with (go_at_call 21; fail)
   refine hru.mono ?_
   rintro e w3 ⟨cv3, hv3, vs3, pv, rfl, hG3, hM3, hK3, hB3⟩
   obtain ⟨qa, qc, hpv⟩ := formR hG3
   subst hpv
   clear hru c0 c1 c2 c3 c4 c5 c6
   have hk0 : Keep wr w3 := (Keep.of_below (below_alloc _ _)).trans hK3
   have bw3 : Below w.heap.size w w3 := (hbel.alloc hbs _).trans hB3
   have hsz3 : wr.heap.size + 1 <= w3.heap.size := by have := hK3.1; simpa using this
   have HA3 := hid (HA.out.keep hk0)
   have HG3 : Hid (Gr pairV 92 2 w.heap.size w3 (.slice qa ob.ps.length qc) ob.ps) := hid (own_bs hG3 (by simp; omega))
   have HNB : Hid (∀ c, (Value.slice qa ob.ps.length qc).ownBlock = some c -> ∀ x ∈ ps, x.1.ownBlock ≠ some c) := hid (fun c hc x hx he => by
    have h1 := (hG3.lt c hc).1
    have h2 := (HA.out.2.1 x hx).lt c he
    simp at h1
    omega)
   have HMA := hid (hM3.below (below_alloc w3 (.cells #[.int .i64 ob.code, .int .i64 ob.vl, .int .i64 ob.st, .bool ob.fd, .slice qa ob.ps.length qc] 38)))
   have HAA := hid (HA3.out.below (below_alloc w3 (.cells #[.int .i64 ob.code, .int .i64 ob.vl, .int .i64 ob.st, .bool ob.fd, .slice qa ob.ps.length qc] 38)))
   have HGA := hid (HG3.out.below (below_alloc w3 (.cells #[.int .i64 ob.code, .int .i64 ob.vl, .int .i64 ob.st, .bool ob.fd, .slice qa ob.ps.length qc] 38)))
   have bwA := bw3.alloc bw3.size (.cells #[.int .i64 ob.code, .int .i64 ob.vl, .int .i64 ob.st, .bool ob.fd, .slice qa ob.ps.length qc] 38)
   have hpl2 : ps.length <= 1000 := by have := HPL.out; omega
   clear hG3 hM3 hK3 hB3 HM HA HA3 HG3 hk0
   go_wp2_with (at_builtin; go_loud (refine wpList_append_own _ rfl (.tmp 22) (.tmp 26) 29 rfl w.heap.size 38 i0 _ 5 56 Tryz.underlying29 hi hz0 hz1 hz2 rfl (by decide) (.slice pa ps.length pc) ps.length (ps.flatMap obC) rfl HAA.out.1 ⟨w3.heap.size, 0, none⟩ 1 1 (obC (.slice qa ob.ps.length qc, ob)) rfl rfl (cells_new _ (obC (.slice qa ob.ps.length qc, ob)) 38 _ (by simp)) (oneOb rfl) (by unfold maxLen; omega) (by omega) (by simp; omega) ?_; intro v' w' hown hgrow _; obtain ⟨na, nc, hvn⟩ := formR hown; subst hvn; have HAN : Hid (AnR w.heap.size w' (.slice na (ps.length + 1) nc) (ps ++ [(.slice qa ob.ps.length qc, ob)])) := HAA.out.push hgrow hown HGA.out HNB.out; have HMN := hid (HMA.out.chg (Chg.grown (T := fun ty => ty = 38) hgrow (fun g hg => ⟨_, rfl, own_tag HAA.out.1 hg⟩)) (fun ty h => .inl h)); have bwN : Below w.heap.size w w' := bwA.grown hgrow bwA.size (fun q hq => (HAA.out.1.lt q hq).1); clear hown hgrow))
   go_roundw
   case rel => exact ⟨k + 1, ps ++ [(.slice qa ob.ps.length qc, ob)], na, nc, _, _, _, by omega, by go_num, by simp, hid (by rw [HTK.out, List.map_append, HPS.out]; rfl), hid (by rw [HTK.out]; exact HMN.out), hid (by simpa using HAN.out), bwN⟩
   case measure => simp [intOf]; omega
  .have hkn : k = us.length := by omega
   subst hkn
   have hlti : ¬ (us.length : Int) < us.length := by omega
   rw [List.take_length] at HPS
   have HF : Hid (TxnA (runsF bas0 us).2 0 w (.returned (.tuple #[.slice pa ps.length pc, .int .i64 0])) wr) := hid (by
    have hps : ∀ x ∈ ps, x.2.ps.length <= 1048576 := fun x hx => runs_ps us 0 bas0 bndN0 (by omega) rfl x.2 (by rw [<- HPS.out]; exact List.mem_map_of_mem hx)
    exact ⟨_, ps, rfl, HA.out, by rw [<- HPS.out]; exact HA.out.rs, hbel, by have := HPL.out; omega, hps, HPS.out⟩)
   clear HPS HM HA HPL hcells
   go_wp2
   go_ret2
   exact HF.out
end Go.Proofs.YtblkgicbimflhaaGreat
namespace Go.Proofs.YtblkgicbimflhaaGreat
open Go.ChangeShapes Go.WideShapes Go.ChangeAt Go.RowKit
set_option linter.unusedVariables false
set_option linter.unusedSimpArgs false
set_option maxRecDepth 100000
set_option maxHeartbeats 16000000
open Go.ChangeMaps (setBlock)
structure LedB (c : Led) : Prop where
 kb : ∀ k, (c.K k).length < 1048576
 tb : ∀ k y, (c.T k y).length < 1048576
 hl : c.hs.length <= 1000
 hb : ∀ h ∈ c.hs, BT 32 h
theorem LedM.ff {B : Nat} {w : World} {L : LIx -> Value} {c : Led} (h : LedM B w L c) (k : Nat) (y : Int) : (∃ a n q, L (.ek k y) = .slice a n q) /\ ∃ a n q, L (.ev k y) = .slice a n q := by
 obtain ⟨a, q, e⟩ := h.form (.ek k y)
 obtain ⟨a2, q2, e2⟩ := h.form (.ev k y)
 exact ⟨⟨_, _, _, e⟩, _, _, _, e2⟩
theorem LedM.vat {B sb : Nat} {w : World} {L : LIx -> Value} {c : Led} {ck : Int} {op : Nat -> Option Addr} (h : LedM B w L c) (hb : LedB c) (hS : Blk w sb (sesC ck L op)) (hsb : sb < w.heap.size) (n : Nat) (hn : n < 32) (y : Int) :
 Calls Tryz.prog 64 #[.pointer (some ⟨sb, 0, none⟩), .agg #[.int .i64 (n : Int), .int .i64 y]] w fun e w' => e = .returned (.agg #[L (.ek n y), L (.ev n y)]) /\ Below w.heap.size w w' := by
 have c0 := (ses_cell hS (j := 1 + n * 2) (by omega)).1
 have c1 := (ses_cell hS (j := 1 + n * 2 + 1) (by omega)).1
 rw [sesAt_tk _ _ _ hn] at c0
 rw [sesAt_tv _ _ _ hn] at c1
 exact versionsAt_any B sb 0 n hn (L (.tk n)) (L (.tv n)) (c.K n) (fun y => (L (.ek n y), L (.ev n y))) y w hsb (by rw [Nat.zero_add]; exact c0) (by rw [Nat.zero_add]; exact c1) (h.rm.rows (.tk n)) (h.rm.rows (.tv n)) (h.srt n) (Nat.le_of_lt (hb.kb n)) (fun y hy => by rw [(h.nil n y hy).1, (h.nil n y hy).2]) (fun y => h.ff n y)
theorem LedM.seen {B sb : Nat} {w : World} {L : LIx -> Value} {c : Led} {ck : Int} {op : Nat -> Option Addr} {t : TG} {x : Txn} (h : LedM B w L c) (hb : LedB c) (hS : Blk w sb (sesC ck L op)) (hsb : sb < w.heap.size) (hT : TrM B w t x) (n : Nat) (hn : n < 32) (y : Int) :
 Calls Tryz.prog 44 #[.pointer (some ⟨sb, 0, none⟩), .pointer (some ⟨t.g, 0, none⟩), .agg #[.int .i64 (n : Int), .int .i64 y]] w fun e w' => (∃ v : Vsn, e = .returned (.agg #[.int .i64 v.1, .bool v.2]) /\ v = (mget t.M ((n : Int), y)).getD (verAt (c.T n y) x.bg)) /\ Below w.heap.size w w' := by
 cases hg : mget t.M ((n : Int), y) with
 | some v =>
   refine (seen_own sb 0 t.g t.mb n y x.bg v t.M w hT.gl hT.c0 hT.c34 hT.mp hg).mono ?_
   rintro e w' ⟨h1, h2⟩
   exact ⟨⟨v, h1, rfl⟩, h2⟩
 | none =>
   have c0 := (ses_cell hS (j := 1 + n * 2) (by omega)).1
   have c1 := (ses_cell hS (j := 1 + n * 2 + 1) (by omega)).1
   rw [sesAt_tk _ _ _ hn] at c0
   rw [sesAt_tv _ _ _ hn] at c1
   refine (seen_past sb 0 t.g t.mb n y x.bg t.M w hT.gl hT.c0 hT.c34 hT.mp hg hn B (L (.tk n)) (L (.tv n)) (c.K n) (fun y => (L (.ek n y), L (.ev n y))) (c.T n y) hsb (by rw [Nat.zero_add]; exact c0) (by rw [Nat.zero_add]; exact c1) (h.rm.rows (.tk n)) (h.rm.rows (.tv n)) (h.srt n) (Nat.le_of_lt (hb.kb n)) (fun y hy => by rw [(h.nil n y hy).1, (h.nil n y hy).2]) (fun y => h.ff n y) (h.rm.rows (.ek n y)) (h.rm.rows (.ev n y)) (h.tst n y) (Nat.le_of_lt (hb.tb n y))).mono ?_
   rintro e w' ⟨h1, h2⟩
   exact ⟨⟨_, h1, rfl⟩, h2⟩
theorem flatN {α β : Type} {K : Nat} {f : α -> List β} (hf : ∀ x, (f x).length = K) : ∀ (l : List α) (i : Nat) (hi : i < l.length) (j : Nat), j < K -> (l.flatMap f)[i * K + j]? = (f l[i])[j]?
 | x :: r, 0, _, j, hj => by
   rw [List.flatMap_cons, List.getElem?_append_left (by rw [hf]; omega)]
   simp
 | x :: r, i + 1, hi, j, hj => by
   rw [List.flatMap_cons, List.getElem?_append_right (by rw [hf, Nat.succ_mul]; omega), hf, show (i + 1) * K + j - K = i * K + j by rw [Nat.succ_mul]; omega]
   rw [flatN hf r i (by simpa using hi) j hj]
   rfl
theorem flatN_len {α β : Type} {K : Nat} {f : α -> List β} (hf : ∀ x, (f x).length = K) : ∀ (l : List α), (l.flatMap f).length = l.length * K
 | [] => by simp
 | x :: r => by rw [List.flatMap_cons, List.length_append, hf, flatN_len hf r, List.length_cons, Nat.succ_mul]; omega
theorem LedM.hist {B : Nat} {w : World} {L : LIx -> Value} {c : Led} (h : LedM B w L c) : RS 4 CT 0 w (L .hs) c.hs := by
 have hf : ∀ j, (hsC L c.hs j).length = 4 := fun j => rfl
 have F : Fill 4 CT 0 c.hs c.hs.length ((List.range c.hs.length).flatMap (hsC L c.hs)) w := by
  refine ⟨by rw [flatN_len hf, List.length_range], fun i hi _ => ⟨hsC L c.hs i, ?_, fun j hj => ?_⟩⟩
  .have r1 : IGr B w (L (.hr i)) (c.hs.getD i ti0).reads := h.rm.rows (.hr i)
   have r2 : IGr B w (L (.hw i)) (c.hs.getD i ti0).writes := h.rm.rows (.hw i)
   have e : c.hs.getD i ti0 = c.hs[i] := by rw [List.getD_eq_getElem?_getD, List.getElem?_eq_getElem hi]; rfl
   rw [<- e]
   exact ⟨L (.hr i), L (.hw i), rfl, r1.rs.mono liesI (Nat.zero_le _), r2.rs.mono liesI (Nat.zero_le _)⟩
  .rw [flatN hf _ i (by rw [List.length_range]; exact hi) j hj, List.getElem_range]
 exact F.own liesT (own_bs (h.rm.rows .hs) (Nat.zero_le _)) (Nat.le_refl _)
theorem LedM.hform {B : Nat} {w : World} {L : LIx -> Value} {c : Led} (h : LedM B w L c) : ∃ ga ca, L .hs = .slice ga c.hs.length ca /\ ((ga = none /\ c.hs = [] /\ ca = 0) \/ ∃ g, ga = some ⟨g, 0, none⟩) := by
 rcases (h.rm.rows .hs).2 with ⟨e1, e2⟩ | ⟨g, cap, cur, e1, _⟩
 .have e3 : c.hs.length = 0 := e2
  exact ⟨none, 0, by rw [e1, e3], .inl ⟨rfl, List.length_eq_zero_iff.1 e3, rfl⟩⟩
 .exact ⟨_, cap, e1, .inr ⟨g, rfl⟩⟩
end Go.Proofs.YtblkgicbimflhaaGreat
namespace Go.Proofs.YtblkgicbimflhaaGreat
open Go.ChangeShapes Go.WideShapes Go.ChangeAt Go.RowKit
set_option linter.unusedVariables false
set_option linter.unusedSimpArgs false
set_option maxRecDepth 100000
set_option maxHeartbeats 16000000
open Go.ChangeMaps (setBlock)
def behM (c : Led) (bg : Int) (m : Spt) : Bool := behindB ((c.T m.1.toNat m.2).map (·.1)) bg
open Classical in
noncomputable def verdM (c : Led) (ck : Int) (M : List (Spt × Vsn)) (x : Txn) : Int := if M.any (fun m => behM c x.bg m.1) then 20 else if x.md = 2 then certF (c.hs ++ [infoF x.bg (ck + 1) x.own x.rs]) else 0
theorem verdict_any (B sb : Nat) (w : World) (L : LIx -> Value) (c : Led) (ck : Int) (op : Nat -> Option Addr) (t : TG) (x : Txn) (hL : LedM B w L c) (hLb : LedB c) (hS : Blk w sb (sesC ck L op)) (hsb : sb < w.heap.size) (hT : TrM B w t x) (hck : 0 <= ck) (hck2 : ck <= 1000) :
 Calls Tryz.prog 70 #[.pointer (some ⟨sb, 0, none⟩), .pointer (some ⟨t.g, 0, none⟩)] w fun e w' => e = .returned (.int .i64 (verdM c ck t.M x)) /\ Below w.heap.size w w' := by
 obtain ⟨o, hrun, hit⟩ := run_rangeM w t.mb t.M hT.mp
 have hb0 := below_alloc w o
 have c34 := hT.c34
 have hgl := hT.gl
 have hmb := hT.mp.lt
 have HT := hid hT
 have HL := hid hL
 have HS := hid hS
 have HIT := hid hit
 have HLB := hid hLb
 clear hT hL hS hit hLb
 go_enter Tryz.func70, Tryz.ntmps70
 go_wp2
 clear hrun
 go_loopw [] (fun wr => ∃ D, Hid (IT wr w.heap.size t.mb t.M D) /\ Hid (∀ m ∈ t.M, m.1 ∈ D -> behM c x.bg m.1 = false) /\ Below w.heap.size w wr) (fun wr => wr.rangeLeft t.mb w.heap.size)
 case atStart => exact ⟨[], HIT, hid (fun m _ h => absurd h (by simp)), hb0⟩
 case round =>
  clear HIT hb0
  obtain ⟨D, HIT, HD, hbel⟩ := hrel
  have hbs := hbel.size
  rcases HIT.out.next 0 with ⟨hall, hrun⟩ | ⟨m, w1, hm, hnD, hrun, hit1, hf1, hz1, hlt, hen⟩
  .have HNO : Hid (t.M.any (fun m => behM c x.bg m.1) = false) := hid (List.any_eq_false.2 (fun m hm => by rw [HD.out m hm (hall m hm)]; simp))
   have hT1 := HT.out.below hbel
   have hL1 := HL.out.below hbel
   have hS1 := HS.out.below hbel hsb
   have d1 := hT1.c1
   have e0 := (ses_cell hS1 (j := 0) (by omega)).1
   have e65 := (ses_cell hS1 (j := 65) (by omega)).1
   rw [sesAt_0] at e0
   rw [sesAt_hs] at e65
   obtain ⟨ga, ca, hhs, hga⟩ := hL1.hform
   rw [hhs] at e65
   clear hall HIT HD hbs c34
   by_cases hmd : x.md = 2
   .have hmb2 : (x.md == 2) = true := by rw [hmd]; rfl
    have HV : Hid (verdM c ck t.M x = certF (c.hs ++ [infoF x.bg (ck + 1) x.own x.rs])) := hid (by unfold verdM; rw [HNO.out]; simp [hmd])
    have hw1 : IntKind.i64.wrap (ck + 1) = ck + 1 := by simp only [IntKind.wrap_i64, wrap64]; omega
    have hsb1 : sb < wr.heap.size := by have := hbel.size; omega
    have HCI := hid ((hT1.below (Below.refl _ wr).drew).info (ck + 1))
    have HH := hid hL1.hist
    clear hmd HNO hL1 hS1 hT1
    go_wp2
    refine wp_region_till_drew (S := (fun W => W.cell? ⟨sb, 0, none⟩ = some (.int .i64 ck) /\ W.cell? ⟨sb, 65, none⟩ = some (.slice ga c.hs.length ca))) (late := [12]) (by kernel_rfl) ⟨e0, e65⟩ (fun hHeld => ?_)
    refine tT 0 rfl hHeld ?_
    try simp only [Act.put, q1, q2, q3]
    refine tT 1 rfl hHeld ?_
    try simp only [Act.put, q1, q2, q3]
    refine tT 2 rfl hHeld ?_
    try simp only [Act.put, q1, q2, q3]
    refine till_ld (i := 3) (v := ?_) rfl (Or.inl ⟨by rfl, ?_⟩) hHeld ?_
    rotate_left
    .intro w hSw
     try dsimp only at hSw
     go_simp
     try with_reducible rfl
    try simp only [Act.put, q1, q2, q3]
    refine tT 4 rfl hHeld ?_
    try simp only [Act.put, q1, q2, q3]
    refine tT 5 rfl hHeld ?_
    try simp only [Act.put, q1, q2, q3]
    refine tT 6 rfl hHeld ?_
    try simp only [Act.put, q1, q2, q3]
    refine tT 7 rfl hHeld ?_
    try simp only [Act.put, q1, q2, q3]
    refine till_ld (i := 8) (v := ?_) rfl (Or.inl ⟨by rfl, ?_⟩) hHeld ?_
    rotate_left
    .intro w hSw
     try dsimp only at hSw
     go_simp
     try with_reducible rfl
    try simp only [Act.put, q1, q2, q3]
    refine tT 9 rfl hHeld ?_
    try simp only [Act.put, q1, q2, q3]
    refine rE 10 rfl fun K hK => ?_
    go_simp
    refine HCI.out.mono ?_
    rintro e W2 ⟨v2, v3, rfl, hG2, hG3, hds, hb2⟩
    replace hb2 : Below wr.heap.size wr W2 := undrew hb2
    have g0 : W2.cell? ⟨sb, 0, none⟩ = some (.int .i64 ck) := ct hb2 hsb1 e0
    have g65 : W2.cell? ⟨sb, 65, none⟩ = some (.slice ga c.hs.length ca) := ct hb2 hsb1 e65
    have HCT : Hid (CT 0 W2 [.int .i64 x.bg, .int .i64 (ck + 1), v2, v3] (infoF x.bg (ck + 1) x.own x.rs)) := ⟨v2, v3, rfl, hG2.rs.mono liesI (Nat.zero_le _), hG3.rs.mono liesI (Nat.zero_le _)⟩
    have HBT : Hid (BT 1048576 (infoF x.bg (ck + 1) x.own x.rs)) := ⟨Nat.le_trans (tabsT_len _ _) (by omega), Nat.le_trans (tabsT_len _ _) (by omega)⟩
    have HRS : Hid (RS 4 CT 0 W2 (.slice ga c.hs.length ca) c.hs) := hid (by rw [hhs] at HH; exact HH.out.below liesT hb2)
    have HBH : Hid (BH 1048576 c.hs) := ⟨by have := HLB.out.hl; omega, fun h hh => ⟨by have := (HLB.out.hb h hh).1; omega, by have := (HLB.out.hb h hh).2; omega⟩⟩
    have HCE := hid (certify_impl ga ca c.hs _ _ W2 HBH.out HBT.out HRS.out HCT.out hga)
    obtain ⟨a2, q2, hf2⟩ := hG2.form
    obtain ⟨a3, q3, hf3⟩ := hG3.form
    subst hf2 hf3
    refine hK _ _ ⟨⟨g0, g65⟩, ?_⟩
    clear hK K hG2 hG3 hds HCT HBT HRS HBH HCI
    try simp only [Act.put, q1, q2, q3]
    refine rE 11 rfl fun K hK => ?_
    go_simp
    refine HCE.out.mono ?_
    rintro e W3 ⟨hR, hb3⟩
    have hRe := certR_f hR
    rw [<- HV.out] at hRe
    subst hRe
    have hs3 := hb2.size
    have g0' : W3.cell? ⟨sb, 0, none⟩ = some (.int .i64 ck) := (hb3.cell (p := ⟨sb, 0, none⟩) (by show sb < _; omega)).trans g0
    have g65' : W3.cell? ⟨sb, 65, none⟩ = some (.slice ga c.hs.length ca) := (hb3.cell (p := ⟨sb, 65, none⟩) (by show sb < _; omega)).trans g65
    have bw3 : Below w.heap.size w W3 := (hbel.trans (hb2.mono hbel.size)).trans (hb3.mono (by have := hbel.size; omega))
    refine hK _ _ ⟨⟨g0', g65'⟩, ?_⟩
    clear hK K hR HCE hb2 hb3
    try simp only [Act.put, q1, q2, q3]
    refine rL 12 rfl fun K hK => ?_
    go_simp
    refine hK _ _ ?_
    clear hK K
    try simp only [Act.put, q1, q2, q3]
    refine till_done (by kernel_rfl) ?_ _
    go_wp2
    refine bodyPost_ret (v := .int .i64 (verdM c ck t.M x)) (by simp [results, Tryz.results70, go_sem]) rfl ?_
    exact ⟨rfl, bw3⟩
   .have hmb2 : (x.md == 2) = false := beq_eq_false_iff_ne.2 hmd
    have HV : Hid (verdM c ck t.M x = 0) := hid (by unfold verdM; rw [HNO.out]; simp [hmd])
    clear hmd HNO hL1 hS1 hT1
    go_wp2
    refine bodyPost_ret (v := .int .i64 0) (by simp [results, Tryz.results70, go_sem]) rfl ?_
    exact ⟨by rw [HV.out], hbel⟩
  .obtain ⟨⟨a, y⟩, v, b⟩ := m
   have ht := HT.out.mi _ hm
   simp only at ht
   obtain ⟨n, rfl⟩ : ∃ n : Nat, a = (n : Int) := ⟨a.toNat, by omega⟩
   have hn : n < 32 := by omega
   have b1 : Below w.heap.size w w1 := hbel.trans (hf1.below hbs (fun q e => by rw [e]; exact Nat.le_refl _))
   have hsb1 : sb < w1.heap.size := by have := b1.size; omega
   obtain ⟨w2, hw2⟩ : ∃ z, z = w1.alloc (.cells #[.int .i64 (n : Int), .int .i64 y] 113) := ⟨_, rfl⟩
   have b2 : Below w.heap.size w w2 := by rw [hw2]; exact b1.alloc b1.size _
   have HIT2 : Hid (IT w2 w.heap.size t.mb t.M (((n : Int), y) :: D) /\ w2.rangeLeft t.mb w.heap.size < wr.rangeLeft t.mb w.heap.size) := hid (by
    rw [hw2]
    have q := hit1.fr (Fr.of_below (fun _ => False) (below_alloc w1 (.cells #[.int .i64 (n : Int), .int .i64 y] 113))) (fun z => z) (fun z => z)
    exact ⟨q.1, by rw [q.2]; exact hlt⟩)
   have hsb2 : sb < w2.heap.size := by have := b2.size; omega
   have hva := (HL.out.below b2).vat HLB.out (HS.out.below b2 hsb) hsb2 n hn y
   obtain ⟨⟨ka, kn, kc, hek⟩, va, vn, vc, hev⟩ := HL.out.ff n y
   have HM := hid hm
   clear hit1 hf1 hlt hm hnD ht HIT
   simp only [sptV, vsnV] at hrun hen
   rw [hw2] at hva
   go_wp2_with (go_at_call 64; fail)
   refine hva.mono ?_
   rw [<- hw2]
   rintro e w3 ⟨rfl, hb3⟩
   have b3 : Below w.heap.size w w3 := b2.trans (hb3.mono b2.size)
   have hl3 := HL.out.below b3
   have r1 : w3.ownsRow B 3 1 (L (.ek n y)) (c.T n y).length (((c.T n y).map (·.1)).map (Value.int .i64)) := hl3.rm.rows (.ek n y)
   obtain ⟨w4, hw4⟩ : ∃ z, z = w3.alloc (.cells #[L (.ek n y), L (.ev n y)] 155) := ⟨_, rfl⟩
   have b4 : Below w.heap.size w w4 := by rw [hw4]; exact b3.alloc b3.size _
   have kb := blk_new w3 [L (.ek n y), L (.ev n y)] 155
   rw [<- hw4] at kb
   have hml : ((c.T n y).map (·.1)).length = (c.T n y).length := List.length_map _
   have hbh := behind_any B w3.heap.size 0 (L (.ek n y)) ((c.T n y).map (·.1)) x.bg w4 (kb 0 (by simp)).1 (by rw [hml, hw4]; exact own_below r1 (below_alloc _ _)) (by rw [hml]; exact Nat.le_of_lt (HLB.out.tb n y))
   have HI4 : Hid (IT w4 w.heap.size t.mb t.M (((n : Int), y) :: D) /\ w4.rangeLeft t.mb w.heap.size < wr.rangeLeft t.mb w.heap.size) := hid (by
    have q := HIT2.out.1.fr (Fr.of_below (fun _ => False) hb3) (fun z => z) (fun z => z)
    have q2 := q.1.fr (Fr.of_below (fun _ => False) (below_alloc w3 (.cells #[L (.ek n y), L (.ev n y)] 155))) (fun z => z) (fun z => z)
    rw [<- hw4] at q2
    exact ⟨q2.1, by rw [q2.2, q.2]; exact HIT2.out.2⟩)
   have d0 : w4.cell? ⟨t.g, 0, none⟩ = some (.int .i64 x.bg) := (HT.out.below b4).c0
   obtain ⟨bb, hbb⟩ : ∃ z, z = behindB ((c.T n y).map (·.1)) x.bg := ⟨_, rfl⟩
   rw [<- hbb] at hbh
   have HBB : Hid (behM c x.bg ((n : Int), y) = bb) := hid (by unfold behM; rw [hbb]; simp)
   clear hva hl3 r1 kb hml hbb HIT2 hb3 b2 b1
   rw [hek, hev] at hw4 ⊢
   have gl3 : t.g < w3.heap.size := by have := b3.size; omega
   rw [hw4] at hbh d0
   go_wp2_with (go_at_call 87; fail)
   refine hbh.mono ?_
   rw [<- hw4]
   rintro e w5 ⟨rfl, hb5⟩
   have b5 : Below w.heap.size w w5 := b4.trans (hb5.mono b4.size)
   have HI5 : Hid (IT w5 w.heap.size t.mb t.M (((n : Int), y) :: D) /\ w5.rangeLeft t.mb w.heap.size < wr.rangeLeft t.mb w.heap.size) := hid (by
    have q := HI4.out.1.fr (Fr.of_below (fun _ => False) hb5) (fun z => z) (fun z => z)
    exact ⟨q.1, by rw [q.2]; exact HI4.out.2⟩)
   clear hbh HI4 hb5 b4 d0 hw4 hw2
   rcases bb with _ | _
   .have HDN : Hid (∀ m ∈ t.M, m.1 ∈ (((n : Int), y) :: D) -> behM c x.bg m.1 = false) := hid (fun m hm hd => by
     rcases List.mem_cons.1 hd with z | z
     .rw [z]; exact HBB.out
     .exact HD.out m hm z)
    clear HBB HD
    go_wp2
    go_roundw
    case rel => exact ⟨_, hid HI5.out.1, HDN, b5⟩
    case measure => exact HI5.out.2
   .have HV : Hid (verdM c ck t.M x = 20) := hid (by
     have : t.M.any (fun m => behM c x.bg m.1) = true := List.any_eq_true.2 ⟨_, HM.out, HBB.out⟩
     unfold verdM; rw [this]; simp)
    clear HBB HD HI5
    go_wp2
    refine bodyPost_ret (v := .int .i64 20) (by simp [results, Tryz.results70, go_sem]) rfl ?_
    exact ⟨by rw [HV.out], b5⟩
end Go.Proofs.YtblkgicbimflhaaGreat
