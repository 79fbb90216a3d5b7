import Derived.Test.YtblkgicbimflhaaGreatSBX
import Derived.Test.YtblkgicbimflhaaGreatRows
import Derived.Test.YtblkgicbimflhaaGreatSBU
import Derived.ProofKit
import Derived.OpenShut
import Derived.SizedLaws
import Derived.Lib.SmallJoins
namespace Go.Proofs.YtblkgicbimflhaaGreat
open Go.ChangeShapes Go.WideShapes Go.ChangeAt Go.RowKit
set_option linter.unusedVariables false
set_option linter.unusedSimpArgs false
set_option maxRecDepth 100000
set_option maxHeartbeats 16000000
theorem ses_lit : (sesC 0 L0 op0).toArray = Tryz.zeroCells80 := by kernel_rfl
def NoF (v : Value) (ps : List (Value × Obn)) (F : Nat -> Prop) : Prop := (∀ g, v.ownBlock = some g -> ¬ F g) /\ ∀ x ∈ ps, ∀ g, x.1.ownBlock = some g -> ¬ F g
theorem txnRun_impl (us : List Opn) : TxnOf 9 us (txnL us) (txnC us) := by
 intro w a c hv
 by_cases hbig : 1000 < us.length
 .have hbi : (1000 : Int) < us.length := by omega
  have HF : Hid (TxnA (txnL us) (txnC us) w (.returned (.tuple #[.slice none 0 0, .int .i64 5])) w) := hid (by
   have e1 : txnL us = [] := by unfold txnL; rw [if_pos hbig]
   have e2 : txnC us = 5 := by unfold txnC; rw [if_pos hbig]
   rw [e1, e2]
   exact ⟨_, [], rfl, ⟨World.ownsRow_nil _ _ _ _, fun x hx => by simp at hx, List.Pairwise.nil⟩, ⟨_, _, rfl, fun h => absurd h (by simp)⟩, Below.refl _ _, by simp, fun x hx => by simp at hx, rfl⟩)
  clear hv hbig
  go_enter Tryz.func9, Tryz.ntmps9
  go_wp2
  all_goals first | (exfalso; go_light; omega) | skip
  go_ret2
  exact HF.out
 obtain ⟨i0, hi, hz0, hz1, hz2⟩ := info_parts infoObs
 have hbi : ¬ (1000 : Int) < us.length := by omega
 have e1 : txnL us = (runsF bas0 us).2 := by unfold txnL; rw [if_neg hbig]
 have e2 : txnC us = 0 := by unfold txnC; rw [if_neg hbig]
 rw [e1, e2]
 clear e1 e2
 obtain ⟨W1, hW1⟩ : ∃ z, z = w.alloc (.cells Tryz.zeroCells80 80) := ⟨_, rfl⟩
 have M0 := imem0 w
 rw [ses_lit, <- hW1] at M0
 have B0 : Below w.heap.size w W1 := by rw [hW1]; exact below_alloc _ _
 have A0 : AnR w.heap.size W1 (.slice none 0 0) [] := ⟨World.ownsRow_nil _ _ _ _, fun x hx => by simp at hx, List.Pairwise.nil⟩
 have HM0 := hid M0
 have HA0 := hid A0
 obtain ⟨a', cap', hsl, hcells⟩ := hv
 simp only [Value.slice.injEq] at hsl
 obtain ⟨rfl, _, rfl⟩ := hsl
 have HW := hid hW1
 clear M0 A0 hW1
 go_enter Tryz.func9, Tryz.ntmps9
 go_wp2
 all_goals first | (exfalso; go_light; omega) | skip
 rw [<- HW.out]
 clear HW
 go_loopw [5, 13] (fun pv iv wr => ∃ (k : Nat) (ps : List (Value × Obn)) (pa : Option Addr) (pc : Nat) (L : LIx -> Value) (c : Led) (gh : Nat -> TG) (op : Nat -> Option Addr), k <= us.length /\ iv = .int .i64 k /\ pv = .slice pa ps.length pc /\ Hid (ps.map Prod.snd = (runsF bas0 (us.take k)).2) /\ Hid (IMem w.heap.size w.heap.size wr (runsF bas0 (us.take k)).1 L c gh op) /\ Hid (AnR w.heap.size wr (.slice pa ps.length pc) ps) /\ Hid (NoF (.slice pa ps.length pc) ps (foot w.heap.size L (runsF bas0 (us.take k)).1 gh)) /\ Below w.heap.size w wr) (fun _ iv _ => us.length - (intOf iv).toNat)
 case atStart => exact ⟨0, [], _, 0, _, _, _, _, Nat.zero_le _, rfl, rfl, hid rfl, HM0, HA0, hid ⟨fun g hg => (nil_own g hg).elim, fun x hx => by simp at hx⟩, B0⟩
 case round =>
  clear HM0 HA0 B0
  obtain ⟨k, ps, pa, pc, L, c, gh, op, hk, rfl, rfl, HPS, HM, HA, HN, hbel⟩ := hrel
  have hbs := hbel.size
  have hpl : ps.length = k := by
   have := congrArg List.length HPS.out
   rw [List.length_map, runsF_len, List.length_take] at this
   omega
  have HPL := hid hpl
  clear hpl
  by_cases hlt : k < us.length
  .have hlti : (k : Int) < us.length := by omega
   obtain ⟨g, o, rfl, _, hg, hgc⟩ := hcells (by omega)
   obtain ⟨cs, hC, hcell⟩ := hgc k hlt
   have hbn : BndN k (runsF bas0 (us.take k)).1 := by
    have := bnd_runs (us.take k) 0 bas0 bndN0
    rw [List.length_take, Nat.min_eq_left hk, Nat.zero_add] at this
    exact this
   have HTK : Hid (runsF bas0 (us.take (k + 1)) = ((runF (runsF bas0 (us.take k)).1 us[k]).1, (runsF bas0 (us.take k)).2 ++ [(runF (runsF bas0 (us.take k)).1 us[k]).2])) := hid (by
    rw [show us.take (k + 1) = us.take k ++ [us[k]] by rw [List.take_add_one, List.getElem?_eq_getElem hlt]; rfl]
    exact runsF_snoc _ _ _)
   clear hgc hcells
   unfold CO at hC
   subst hC
   generalize us[k] = t at *
   obtain ⟨x, hx⟩ : ∃ z, z = (runsF bas0 (us.take k)).1 := ⟨_, rfl⟩
   rw [<- hx] at HM HN hbn HTK
   have HX := hid hx
   clear hx
   have ba := below_alloc wr (.cells #[.int .i64 t.kd, .int .i64 t.ss, .int .i64 t.tb, .int .i64 t.ky, .int .i64 t.vl, .int .i64 t.md, .string t.nm] 41)
   have hru := answer_any w.heap.size w.heap.size t (wr.alloc (.cells #[.int .i64 t.kd, .int .i64 t.ss, .int .i64 t.tb, .int .i64 t.ky, .int .i64 t.vl, .int .i64 t.md, .string t.nm] 41)) x L c gh op (HM.out.below ba) (hbn.bnd (by omega)) (by have := hbn.ck.2; omega) (by have := hbn.hl; omega) (by simp; omega)
   unfold AnsP at hru
   clear hbn
   obtain ⟨ry, hry⟩ : ∃ z, z = runF x t := ⟨_, rfl⟩
   rw [<- hry] at hru HTK
   clear hry
   obtain ⟨y, ob⟩ := ry
   simp only at hru HTK
   have c0 : wr.cell? ⟨g, o + k * 7, none⟩ = some (.int .i64 t.kd) := ct hbel hg (hcell 0 (by omega))
   have c1 : wr.cell? ⟨g, o + k * 7 + 1, none⟩ = some (.int .i64 t.ss) := ct hbel hg (hcell 1 (by omega))
   have c2 : wr.cell? ⟨g, o + k * 7 + 2, none⟩ = some (.int .i64 t.tb) := ct hbel hg (hcell 2 (by omega))
   have c3 : wr.cell? ⟨g, o + k * 7 + 3, none⟩ = some (.int .i64 t.ky) := ct hbel hg (hcell 3 (by omega))
   have c4 : wr.cell? ⟨g, o + k * 7 + 4, none⟩ = some (.int .i64 t.vl) := ct hbel hg (hcell 4 (by omega))
   have c5 : wr.cell? ⟨g, o + k * 7 + 5, none⟩ = some (.int .i64 t.md) := ct hbel hg (hcell 5 (by omega))
   have c6 : wr.cell? ⟨g, o + k * 7 + 6, none⟩ = some (.string t.nm) := ct hbel hg (hcell 6 (by omega))
   have HBA := hid ba
   clear hcell ba
   go_wp2_with (go_at_call 22; fail)
   refine hru.mono ?_
   rintro e w3 ⟨L', c', gh', op', pv, rfl, hG3, hM3, hF3, hft, hpn⟩
   obtain ⟨qa, qc, hpv⟩ := formR hG3
   subst hpv
   clear hru c0 c1 c2 c3 c4 c5 c6
   have hF0 : Fr (foot w.heap.size L x gh) wr w3 := (Fr.of_below _ HBA.out).trans hF3
   have hsz3 : wr.heap.size + 1 <= w3.heap.size := by have := hF3.size; simpa using this
   have bw3 : Below w.heap.size w w3 := hbel.trans (hF0.below hbs (fun g hg => (HM.out.lt hg).1))
   have hA3 := HA.out.fr hF0 HN.out.1 HN.out.2
   have hold : ∀ g, g < wr.heap.size -> ¬ foot w.heap.size L x gh g -> ¬ foot w.heap.size L' y gh' g := fun g h1 h2 z => by
    rcases hft g z with q | q
    .exact h2 q
    .simp at q; omega
   have hN3 : NoF (.slice pa ps.length pc) ps (foot w.heap.size L' y gh') := ⟨fun g hg => hold g (HA.out.1.lt g hg).2 (HN.out.1 g hg), fun x hx g hg => hold g (World.ownsRow.lt (HA.out.2.1 x hx) g hg).2 (HN.out.2 x hx g hg)⟩
   have HNB : Hid (∀ c, (Value.slice qa ob.ps.length qc).ownBlock = some c -> ∀ x ∈ ps, x.1.ownBlock ≠ some c) := hid (fun c hc x hx he => by
    have h1 := (World.ownsRow.lt hG3 c hc).1
    have h2 := World.ownsRow.lt (HA.out.2.1 x hx) c he
    simp at h1
    omega)
   have bb := below_alloc w3 (.cells #[.int .i64 ob.code, .int .i64 ob.vl, .int .i64 ob.st, .bool ob.fd, .slice qa ob.ps.length qc] 38)
   have HMA := hid (hM3.below bb)
   have HAA := hid (hA3.below bb)
   have HGA : Hid (Gr pairV 92 2 w.heap.size (w3.alloc (.cells #[.int .i64 ob.code, .int .i64 ob.vl, .int .i64 ob.st, .bool ob.fd, .slice qa ob.ps.length qc] 38)) (.slice qa ob.ps.length qc) ob.ps) := hid (own_below (own_bs hG3 (by simp; omega)) bb)
   have bwA := bw3.alloc bw3.size (.cells #[.int .i64 ob.code, .int .i64 ob.vl, .int .i64 ob.st, .bool ob.fd, .slice qa ob.ps.length qc] 38)
   have HN3 := hid hN3
   have HPN := hid hpn
   have hfl : ∀ g, foot w.heap.size L' y gh' g -> g < w3.heap.size := fun g hg => (hM3.lt hg).2
   have HFL := hid hfl
   have hpl2 : ps.length <= 1000 := by have := HPL.out; omega
   clear hG3 hM3 hF3 hft hpn HM HA HN hA3 hN3 hold hF0 bb hfl
   go_wp2_with (at_builtin; go_loud (refine wpList_append_own_at _ rfl (.tmp 17) (.tmp 20) 29 rfl w.heap.size 38 i0 _ 5 56 Tryz.underlying29 hi hz0 hz1 hz2 rfl (by decide) (.slice pa ps.length pc) ps.length (ps.flatMap obC) rfl HAA.out.1 ⟨w3.heap.size, 0, none⟩ 1 1 (obC (.slice qa ob.ps.length qc, ob)) rfl rfl (cells_new _ (obC (.slice qa ob.ps.length qc, ob)) 38 _ (by simp)) (oneOb rfl) (by unfold maxLen; omega) (by omega) (by simp; omega) ?_; intro v' w' hown hgrow _ hat; obtain ⟨na, nc, hvn⟩ := formR hown; subst hvn; have HAN : Hid (AnR w.heap.size w' (.slice na (ps.length + 1) nc) (ps ++ [(.slice qa ob.ps.length qc, ob)])) := HAA.out.push hgrow hown HGA.out HNB.out; have HMN := hid (HMA.out.fr (Fr.grown hgrow) (fun g hg z => HN3.out.1 g z hg)); have HNN : Hid (NoF (.slice na (ps.length + 1) nc) (ps ++ [(.slice qa ob.ps.length qc, ob)]) (foot w.heap.size L' y gh')) := hid (⟨fun g hg z => (hat.elim (fun q => HN3.out.1 g (q ▸ hg) z) (fun q => by rw [q] at hg; injection hg with hg; have := HFL.out g z; simp at hg; omega)), fun x hx g hg => ((List.mem_append.1 hx).elim (fun q => HN3.out.2 x q g hg) (fun q => by rw [List.mem_singleton] at q; subst q; exact HPN.out g hg))⟩); have bwN : Below w.heap.size w w' := bwA.grown hgrow bwA.size (fun q hq => (HAA.out.1.lt q hq).1); clear hown hgrow hat))
   go_roundw
   case rel => exact ⟨k + 1, ps ++ [(.slice qa ob.ps.length qc, ob)], na, nc, L', c', gh', op', by omega, by go_num, by simp, hid (by rw [HTK.out, List.map_append, HPS.out]; rfl), hid (by rw [HTK.out]; exact HMN.out), hid (by simpa using HAN.out), hid (by rw [HTK.out]; simpa using HNN.out), bwN⟩
   case measure => simp [intOf]; omega
  .have hkn : k = us.length := by omega
   subst hkn
   have hlti : ¬ (us.length : Int) < us.length := by omega
   rw [List.take_length] at HPS
   have HF : Hid (TxnA (runsF bas0 us).2 0 w (.returned (.tuple #[.slice pa ps.length pc, .int .i64 0])) wr) := hid (by
    have hps : ∀ x ∈ ps, x.2.ps.length <= 1048576 := fun x hx => runs_ps us 0 bas0 bndN0 (by omega) rfl x.2 (by rw [<- HPS.out]; exact List.mem_map_of_mem hx)
    exact ⟨_, ps, rfl, HA.out, by rw [<- HPS.out]; exact HA.out.rs, hbel, by have := HPL.out; omega, hps, HPS.out⟩)
   clear HPS HM HA HPL HN hcells
   go_wp2
   go_ret2
   exact HF.out
end Go.Proofs.YtblkgicbimflhaaGreat
namespace Go.Proofs.YtblkgicbimflhaaGreat
open Go.ChangeShapes Go.WideShapes Go.ChangeAt Go.RowKit Go.Lib Go.Joins
set_option linter.unusedVariables false
set_option linter.unusedSimpArgs false
set_option maxRecDepth 100000
def AllCells (p : List MemPlace) : Prop := ∀ x ∈ p, ∃ xb xo, x = .cell xb xo
def CYb (B : Nat) (w : World) (cs : List Value) (x : Int) : Prop := cs = [.int .u8 x]
theorem cells5 : Tryz.prog.cellsOf 5 = 1 := by kernel_rfl
theorem slice_trod {H : Type} {enc : TypeId × Value -> H} {W : World} {α : Type} {C : Nat -> World -> List Value -> α -> Prop} {Q : α -> Prop} {S E k : Nat} (hS : Tryz.prog.underlying S = some (.slice E)) (hk : Tryz.prog.cellsOf E = k) (hk0 : 0 < k)
 (el : ∀ {n : Nat} {cs : List Value} {x : DataW H × List MemPlace}, DataW.trod enc Tryz.prog W 0 (fun _ => true) true n E cs = some x -> ∃ u, C 0 W cs u /\ Q u /\ AllCells x.2)
 {n : Nat} {cs : List Value} {x : DataW H × List MemPlace} (h : DataW.trod enc Tryz.prog W 0 (fun _ => true) true n S cs = some x) :
 ∃ (v : Value) (us : List α), cs = [v] /\ us.length <= maxLen /\ (∀ u ∈ us, Q u) /\ RS k C 0 W v us /\ AllCells x.2 := by
 rcases DataW.trod_slice hS h with ⟨hcs, hx⟩ | ⟨a, len, cap, elems, rest, m, hn, hcs, hx, _, hl, hm, hel, hE, hR, _⟩
 .subst hx
  exact ⟨_, [], hcs, Nat.zero_le _, fun u h => by simp at h, ⟨none, 0, rfl, fun h => absurd h (by simp)⟩, fun _ h => by cases h⟩
 .subst hx
  rw [hk] at hE hR
  have hE' : ∀ i, i < len -> ∃ t : α × List Value, W.cells? 0 (a.add (i * k)) k = some t.2 /\ (C 0 W t.2 t.1 /\ Q t.1) /\ ∀ y, elems[i]? = some y -> AllCells y.2 := fun i hi => by
   have h1 := hE i hi
   rw [List.getElem?_eq_getElem (by omega)] at h1
   obtain ⟨cs, h2, h3⟩ := Option.bind_eq_some_iff.1 h1
   obtain ⟨u, hu, hq, hc⟩ := el h3
   exact ⟨(u, cs), h2, ⟨hu, hq⟩, fun y hy => by rw [List.getElem?_eq_getElem (by omega)] at hy; cases hy; exact hc⟩
  obtain ⟨us, hul, hus⟩ := list_of _ len hE'
  subst hul
  have hrest : ∀ y ∈ rest, AllCells y.2 := fun y hy => by
   obtain ⟨hr1, hr2⟩ := hR rfl
   obtain ⟨j, hj, rfl⟩ := List.getElem_of_mem hy
   have h1 := hr2 j (by omega)
   rw [List.getElem?_eq_getElem hj] at h1
   obtain ⟨cs, h2, h3⟩ := Option.bind_eq_some_iff.1 h1
   obtain ⟨u, hu, hq, hc⟩ := el h3
   exact hc
  have helem : ∀ y ∈ elems, AllCells y.2 := fun y hy => by
   obtain ⟨j, hj, rfl⟩ := List.getElem_of_mem hy
   exact (hus j (by omega)).2.2 _ (List.getElem?_eq_getElem hj)
  have hlm : (us.map (·.1)).length = us.length := by simp
  refine ⟨_, us.map (·.1), hcs, by rw [hlm]; omega, fun t ht => ?_, ⟨some a, cap, by rw [hlm], fun hp => ?_⟩, fun x hx => ?_⟩
  .obtain ⟨u, hu, rfl⟩ := List.mem_map.1 ht
   obtain ⟨j, hj, rfl⟩ := List.getElem_of_mem hu
   exact (hus j hj).2.1.2
  .rw [hlm] at hp
   have hc0 := (World.cells?_some (hus 0 hp).1)
   have hblk := World.cells?_block (hus 0 hp).1 (by omega)
   obtain ⟨ab, ao, spot⟩ := a
   have hlen0 : 0 < (us[0].2).length := by rw [hc0.2.1]; exact hk0
   have hspot : spot = none := by
    have := hc0.2.2 0 (by omega)
    rw [List.getElem?_eq_getElem hlen0] at this
    simpa [Addr.add] using World.cell?_spot this
   subst hspot
   refine ⟨ab, ao, rfl, Nat.zero_le _, by simpa [Addr.add_lit] using hblk, fun i hi => ?_⟩
   have hi' : i < us.length := by rw [hlm] at hi; exact hi
   obtain ⟨_, _, hc⟩ := World.cells?_some (hus i hi').1
   have hg : (us.map (·.1))[i] = us[i].1 := by simp
   rw [hg]
   refine ⟨us[i].2, (hus i hi').2.1.1, fun j hj => ?_⟩
   have q := hc j (by omega)
   rw [Addr.add_lit, Addr.add_lit] at q
   exact q
  .rcases List.mem_append.1 hx with h | h
   .simp only [MemPlace.row, List.mem_map] at h
    obtain ⟨i, _, rfl⟩ := h
    exact ⟨_, _, rfl⟩
   .obtain ⟨y, hy, hxy⟩ := List.mem_flatMap.1 h
    rcases List.mem_append.1 hy with h | h
    .exact helem y h x hxy
    .exact hrest y h x hxy
theorem byte_trod {H : Type} {enc : TypeId × Value -> H} {W : World} {n : Nat} {cs : List Value} {x : DataW H × List MemPlace} (h : DataW.trod enc Tryz.prog W 0 (fun _ => true) true n 5 cs = some x) : ∃ u, CYb 0 W cs u /\ (0 <= u /\ u <= 255) /\ AllCells x.2 := by
 obtain ⟨k, e0, e1, wf⟩ := DataW.trod_int Tryz.underlying5 h
 refine ⟨k, e0, ?_, by rw [e1]; intro y hy; cases hy⟩
 have h1 : IntKind.u8.min = 0 := by decide
 have h2 : IntKind.u8.max = 255 := by decide
 simp [Lit.wf, IntKind.wrap, IntKind.bits, IntKind.signed, h1, h2] at wf
 omega
theorem bytes_trod {H : Type} {enc : TypeId × Value -> H} {W : World} {n : Nat} {cs : List Value} {x : DataW H × List MemPlace} (h : DataW.trod enc Tryz.prog W 0 (fun _ => true) true n 22 cs = some x) :
 ∃ (v : Value) (us : List Int), cs = [v] /\ us.length <= maxLen /\ (∀ u ∈ us, (0 <= u /\ u <= 255)) /\ RS 1 CYb 0 W v us /\ AllCells x.2 :=
 slice_trod (C := CYb) (Q := fun u => (0 <= u /\ u <= 255)) (k := 1) Tryz.underlying22 cells5 (by omega) (fun h => byte_trod h) h
theorem own : ownKnob Tryz.prog.godebug = none := by kernel_rfl
theorem laidOutP : laidOutB Tryz.prog = true := by kernel_rfl
theorem stayYb {H : Type} {enc : TypeId × Value -> H} {W W' : World} {v : Value} {d : DataW H} {p : List MemPlace} {sp : Nat -> Bool} (h : DataW.Trod enc Tryz.prog W 0 (fun _ => true) true 22 v d p) (bel : Below W.heap.size W W') (hlt : ∀ x ∈ p, x.block < W.heap.size) (hcl : AllCells p) (hsp : ∀ x ∈ p, sp x.block = true) : DataW.Trod enc Tryz.prog W' 0 sp true 22 v d p :=
 WideElems.Trod_stays (P := Tryz.prog) laidOutP (by kernel_rfl) (of_decide_eq_true (by kernel_rfl)) h (fun x hx => by
  obtain ⟨xb, xo, rfl⟩ := hcl x hx
  exact bel.cell (p := ⟨xb, xo, none⟩) (hlt _ hx)) hsp
theorem open_Yb {H : Type} {enc : TypeId × Value -> H} {W : World} {v : Value} {d : DataW H} {p : List MemPlace} {base : Nat} (hval : Value.okWide Tryz.prog W .any base 22 v) (h : DataW.Trod enc Tryz.prog W 0 (fun _ => true) true 22 v d p) :
 ∃ (a : Option Addr) (cap len : Nat), v = .slice a len cap /\ len <= maxLen /\ Bytes W W.heap.size a len /\ AllCells p := by
 obtain ⟨a, len, cap, rfl⟩ := okWide_slice Tryz.underlying22 hval
 obtain ⟨fuel, hf⟩ := h
 obtain ⟨v', us, e, hl, hq, hr, hc⟩ := bytes_trod hf
 simp [Value.cells] at e
 subst e
 obtain ⟨a', cap', he, hcell⟩ := hr
 rw [he]
 refine ⟨a', cap', us.length, rfl, hl, fun j hj => ?_, hc⟩
 obtain ⟨g, o, rfl, _, hg, hcs⟩ := hcell (by omega)
 obtain ⟨cs, h1, h2⟩ := hcs j hj
 have h3 := h2 0 (by omega)
 unfold CYb at h1
 subst h1
 have hb := hq us[j] (List.getElem_mem hj)
 refine ⟨g, o, us[j], rfl, hg, ?_, hb.1, by omega⟩
 rw [Nat.mul_one, Nat.add_zero] at h3
 exact h3
end Go.Proofs.YtblkgicbimflhaaGreat
