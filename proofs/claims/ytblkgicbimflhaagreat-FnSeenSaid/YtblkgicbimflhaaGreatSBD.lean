import Derived.Test.YtblkgicbimflhaaGreatSBC
import Derived.Shelf.SlMaps.Clone
import Derived.Deep.RegionWith
import Derived.Deep.RegionHeld3
import Derived.Maps.AppendAt
import Derived.RangeFuncNested
import Derived.RangeFuncBound
import Derived.RangeFuncCalls
import Derived.RangeFuncLeaves
import Derived.Shelf.Abstract
import Derived.Shelf.RegionOpen
import Derived.WalkKit
import Derived.OwnWalkIn
import Derived.TacticsInMore
import Derived.LoopNIn
import Derived.LoopIn
namespace Go.Proofs.YtblkgicbimflhaaGreat
open Go.ChangeShapes Go.WideShapes Go.ChangeAt Go.RowKit
set_option linter.unusedVariables false
set_option linter.unusedSimpArgs false
set_option maxRecDepth 100000
set_option maxHeartbeats 16000000
open Go.ChangeMaps (setBlock)
theorem clone_any (b : Nat) (M : List (Spt × Vsn)) (w : World) (h : MP w b M) :
 Calls Tryz.prog 73 #[.map (some b)] w fun e w' => e = .returned (.map (some w.heap.size)) /\ MP w' w.heap.size M /\ Below w.heap.size w w' /\ w'.heap.size = w.heap.size + 1 := by
 obtain ⟨es, cl, h1, h2⟩ := h
 have hq := fun w => run_eql_map_nil_sl (P := Tryz.prog) w 116 _ _ (some b) Tryz.underlying116
 have HF : Hid (MP (w.alloc (.map es cl)) w.heap.size M /\ Below w.heap.size w (w.alloc (.map es cl)) /\ (w.alloc (.map es cl)).heap.size = w.heap.size + 1) := hid (⟨⟨es, cl, Array.getElem?_push_size, h2⟩, below_alloc _ _, by simp⟩)
 go_enter Tryz.func73, Tryz.ntmps73
 go_wp2
 rw [run_callFunc_extern Tryz.func92 (by kernel_rfl) (by kernel_rfl) (by kernel_rfl) (e := Extern.MapsClone.clone) (by kernel_rfl), run_maps_clone_sl w 116 h1]
 simp only [Result.andThen]
 rw [Oper.upon_value]
 go_wp2
 rw [run_typeAssert_map_sl _ 116 20 _ _ _ Tryz.underlying116]
 simp only [Result.andThen]
 rw [Oper.upon_value]
 go_wp2
 go_ret
 exact ⟨rfl, HF.out⟩
def TrP (B : Nat) (w : World) (t : TG) (x' : Txn) (w' : World) : Prop := ∃ t', TrM B w' t' x' /\ t'.g = t.g /\ (∀ b, trF t' b -> trF t b \/ w.heap.size <= b) /\ Fr (trF t) w w'
theorem infoSv : (Tryz.prog.info? 169).map (fun i => (i.zero, i.size, i.bytes)) = some (some (.agg #[.string ByteArray.empty, .map none]), 2, 24) := by kernel_rfl
theorem svC_snoc : ∀ (ss : List Sav) (bs : List Nat) (s : Sav) (b : Nat), bs.length = ss.length -> svC (ss ++ [s]) (bs ++ [b]) = svC ss bs ++ [.string s.nm, .map (some b)]
 | [], [], s, b, _ => rfl
 | [], _ :: _, _, _, h => by simp at h
 | _ :: _, [], _, _, h => by simp at h
 | a :: r, c :: q, s, b, h => by
   have ih := svC_snoc r q s b (by simpa using h)
   have e : svC (a :: r ++ [s]) (c :: q ++ [b]) = [.string a.nm, .map (some c)] ++ svC (r ++ [s]) (q ++ [b]) := rfl
   have e2 : svC (a :: r) (c :: q) = [.string a.nm, .map (some c)] ++ svC r q := rfl
   rw [e, e2, ih, List.append_assoc]
theorem TrM.pushed {B : Nat} {w W1 W2 : World} {t : TG} {x : Txn} (h : TrM B w t x) {nm : ByteArray} {v' : Value} (hl : x.sv.length < 8) (hB : B <= w.heap.size) (hb1 : Below w.heap.size w W1) (hm : MP W1 w.heap.size t.M) (hf : Fr (fun b => t.sv.ownBlock = some b) W1 W2) (ho : W2.ownsRow B 169 2 v' (x.sv.length + 1) (svC x.sv (t.sm.map Prod.fst) ++ [.string nm, .map (some w.heap.size)])) (hv : v'.ownBlock = t.sv.ownBlock \/ ∃ q, v'.ownBlock = some q /\ w.heap.size < q) :
 TrP B w t { x with sv := x.sv ++ [⟨nm, x.own⟩] } (W2.setCell ⟨t.g, 35, none⟩ v') := by
 have h1 := h.below hb1
 have f2 := Fr.setCell W2 t.g 35 v'
 have hng : ¬ t.sv.ownBlock = some t.g := h.sg
 have nv : ∀ b, v'.ownBlock = some b -> t.sv.ownBlock = some b \/ w.heap.size < b := fun b hb => by
  rcases hv with e | ⟨q, e, hq⟩
  .exact .inl (e ▸ hb)
  .rw [e] at hb; injection hb with hb; subst hb; exact .inr hq
 have hlt : ∀ b, trF t b -> b < w.heap.size := fun b hb => h.lt hb
 refine ⟨⟨t.g, t.mb, t.M, v', t.sm ++ [(w.heap.size, t.M)]⟩, ⟨?_, ?_, h.rl, ?_, h.mr, h.mi, ?_, ?_, ?_, fun j hj hj' => ?_, ?_, ?_, fun b hb => ?_⟩, rfl, fun b hb => ?_, ?_⟩
 .have k1 := (h1.bk.fr hf h1.gl hng).set 35 v' (by rw [tranC_len _ _ _ _ _ h.rl]; omega)
  rw [tranC_setsv _ _ _ _ _ _ h.rl] at k1
  exact k1
 .have := hf.size; have := h1.gl; simp; omega
 .exact (h1.mp.fr hf h.sv_mb).fr f2 (fun e => h.g_mb e.symm)
 .simp [h.sl]
 .simp; omega
 .simp only [List.map_append, List.map_cons, List.map_nil, List.length_append, List.length_cons, List.length_nil]
  rw [svC_snoc _ _ _ _ (by rw [List.length_map]; exact h.sl)]
  refine own_fr ho f2 (fun b hb e => ?_)
  have e2 : b = t.g := e
  subst e2
  rcases nv _ hb with z | z
  .exact h.sg z
  .have := h.gl; omega
 .by_cases hjl : j < t.sm.length
  .have hj2 : j < x.sv.length := by rw [<- h.sl]; exact hjl
   simp only [List.getElem_append_left hjl, List.getElem_append_left hj2]
   obtain ⟨q1, q2⟩ := h1.ss j hjl hj2
   refine ⟨(q1.fr hf (fun e => h.sv_sm e (List.mem_map_of_mem (List.getElem_mem hjl)))).fr f2 (fun e => ?_), q2⟩
   have e2 : t.sm[j].1 = t.g := e
   exact h.g_sm (by rw [<- e2]; exact List.mem_map_of_mem (List.getElem_mem hjl))
  .simp at hj
   have hje : j = t.sm.length := by omega
   subst hje
   have e1 : (t.sm ++ [(w.heap.size, t.M)])[t.sm.length]'(by simp) = (w.heap.size, t.M) := by simp
   have e2 : (x.sv ++ [(⟨nm, x.own⟩ : Sav)])[t.sm.length]'(by simp [h.sl]) = ⟨nm, x.own⟩ := by simp [h.sl]
   simp only [e1, e2]
   refine ⟨(hm.fr hf (fun e => ?_)).fr f2 (fun e => ?_), h.mr, h.mi⟩
   .have := (h.sr.lt _ e).2; omega
   .have e2 : w.heap.size = t.g := e; have := h.gl; omega
 .simp only [List.map_append, List.map_cons, List.map_nil]
  have hn := h.nd
  rw [List.nodup_cons] at hn ⊢
  refine ⟨fun z => ?_, List.nodup_append.2 ⟨hn.2, by simp, fun a ha b hb e => ?_⟩⟩
  .rcases List.mem_append.1 z with q | q
   .exact hn.1 q
   .rw [List.mem_singleton] at q; have := h.mp.lt; omega
  .rw [List.mem_singleton] at hb
   have := hlt a (.inr (.inr (.inl ha)))
   omega
 .intro e
  have e' : v'.ownBlock = some t.g := e
  rcases nv _ e' with z | z
  .exact h.sg z
  .have := h.gl; omega
 .rcases hb with z | z | z | z
  .exact h.ge b (.inl z)
  .exact h.ge b (.inr (.inl z))
  .simp only [List.map_append, List.map_cons, List.map_nil] at z
   rcases List.mem_append.1 z with q | q
   .exact h.ge b (.inr (.inr (.inl q)))
   .rw [List.mem_singleton] at q; omega
  .rcases nv b z with q | q
   .exact h.ge b (.inr (.inr (.inr q)))
   .omega
 .rcases hb with z | z | z | z
  .exact .inl (.inl z)
  .exact .inl (.inr (.inl z))
  .simp only [List.map_append, List.map_cons, List.map_nil] at z
   rcases List.mem_append.1 z with q | q
   .exact .inl (.inr (.inr (.inl q)))
   .rw [List.mem_singleton] at q; exact .inr (by omega)
  .rcases nv b z with q | q
   .exact .inl (.inr (.inr (.inr q)))
   .exact .inr (by omega)
 .exact ((Fr.of_below _ hb1).trans (hf.mono (fun b z => .inr (.inr (.inr z))))).trans (f2.mono (fun b z => .inl z))
theorem step_append_run {P : Program} {ops : Array Oper} {o : Oper} {a : Act} {w : World} {K : Act -> World -> Prop} {Q : Exit -> Act -> World -> Prop} {E : Prop} (hg : o.guard = none) (s x : Operand) (t : TypeId) (hop : o.op = Op.call { callee := Callee.builtin Builtin.append, args := #[s, x], argTypes := #[t, t] }) (v y : Value) (hs : a.eval s = v) (hx : a.eval x = y) (v' : Value) (w' : World) (hrun : (Builtin.append_ #[t, t] o.type #[v, y]).run P w = .ok v' w') (hK : K (a.put o.dst v') w') :
 if Region.wanted o (yielded ops a.tmps) = true then Oper.wp P o a w K Q else E := by
 have hw : Region.wanted o (yielded ops a.tmps) = true := by simp [Region.wanted, hg]
 rw [if_pos hw]
 unfold Oper.wp
 simp [execOp, hop, resolve, invoke, builtin, hs, hx, hrun, Result.andThen]
 exact hK
def SaveP (B : Nat) (w : World) (t : TG) (x : Txn) (nm : ByteArray) (e : Ending) (w' : World) : Prop := (x.sv.length = 8 /\ e = .returned (.int .i64 5) /\ w' = w) \/ (x.sv.length < 8 /\ e = .returned (.int .i64 0) /\ TrP B w t { x with sv := x.sv ++ [⟨nm, x.own⟩] } w')
theorem save_any (B : Nat) (w : World) (t : TG) (x : Txn) (h : TrM B w t x) (nm : ByteArray) (hB : B <= w.heap.size) :
 Calls Tryz.prog 49 #[.pointer (some ⟨t.g, 0, none⟩), .string nm] w fun e w' => SaveP B w t x nm e w' := by
 obtain ⟨i0, hi, hz0, hz1, hz2⟩ := info_parts infoSv
 obtain ⟨c35, f35⟩ := h.c35
 have c34 := h.c34
 obtain ⟨sa, sc, hsv⟩ := h.svf
 rw [hsv] at c35
 have hs8 := h.s8
 have hgl := h.gl
 by_cases h8 : x.sv.length = 8
 .have HE : Hid (SaveP B w t x nm (.returned (.int .i64 5)) w) := .inl ⟨h8, rfl, rfl⟩
  have h8b : ((x.sv.length : Int) == 8) = true := by rw [h8]; rfl
  clear h8
  go_enter Tryz.func49, Tryz.ntmps49
  go_wp2
  refine bodyPost_ret (v := .int .i64 5) (by simp [results, Tryz.results49, go_sem]) rfl ?_
  exact HE.out
 .have hl8 : x.sv.length < 8 := by omega
  have h8b : ((x.sv.length : Int) == 8) = false := beq_eq_false_iff_ne.2 (by omega)
  have HT := hid h
  have HSR := hid h.sr
  have hcl : Calls Tryz.prog 73 #[.map (some t.mb)] w.drew fun e w' => e = .returned (.map (some w.heap.size)) /\ MP w' w.heap.size t.M /\ Below w.heap.size w w' /\ w'.heap.size = w.heap.size + 1 := (clone_any t.mb t.M w.drew h.mp).mono (fun e w' z => ⟨z.1, z.2.1, undrew z.2.2.1, z.2.2.2⟩)
  clear h8 h
  go_enter Tryz.func49, Tryz.ntmps49
  go_wp2
  refine wp_region_till_drew (S := (fun W => W.cell? ⟨t.g, 35, none⟩ = some (.slice sa x.sv.length sc) /\ W.cell? ⟨t.g, 34, none⟩ = some (.map (some t.mb)))) (late := [14, 15, 16]) (by kernel_rfl) (by go_keep) (fun hHeld => ?_)
  refine tT 0 rfl hHeld ?_
  try simp only [Act.put, q1, q2, q3]
  refine tT 1 rfl hHeld ?_
  try simp only [Act.put, q1, q2, q3]
  refine tT 2 rfl hHeld ?_
  try simp only [Act.put, q1, q2, q3]
  refine tT 3 rfl hHeld ?_
  try simp only [Act.put, q1, q2, q3]
  refine till_ld (i := 4) (v := ?_) rfl (Or.inl ⟨by rfl, ?_⟩) hHeld ?_
  rotate_left
  .intro w hSw
   try dsimp only at hSw
   go_simp
   try with_reducible rfl
  try simp only [Act.put, q1, q2, q3]
  refine tT 5 rfl hHeld ?_
  try simp only [Act.put, q1, q2, q3]
  refine tT 6 rfl hHeld ?_
  try simp only [Act.put, q1, q2, q3]
  refine tT 7 rfl hHeld ?_
  try simp only [Act.put, q1, q2, q3]
  refine tT 8 rfl hHeld ?_
  try simp only [Act.put, q1, q2, q3]
  refine till_ld (i := 9) (v := ?_) rfl (Or.inl ⟨by rfl, ?_⟩) hHeld ?_
  rotate_left
  .intro w hSw
   try dsimp only at hSw
   go_simp
   try with_reducible rfl
  try simp only [Act.put, q1, q2, q3]
  refine rE 10 rfl fun K hK => ?_
  go_simp
  refine hcl.mono ?_
  rintro e W1 ⟨rfl, hm1, hb1, hq1⟩
  have hq2 : w.heap.size < W1.heap.size := by omega
  clear hq1
  have HM1 := hid hm1
  have HB1 := hid hb1
  have c5 : W1.cell? ⟨t.g, 35, none⟩ = some (.slice sa x.sv.length sc) := ct hb1 hgl c35
  have c4 : W1.cell? ⟨t.g, 34, none⟩ = some (.map (some t.mb)) := ct hb1 hgl c34
  have f5 : W1.frozen? ⟨t.g, 35, none⟩ = false := (hb1.frozen (p := ⟨t.g, 35, none⟩) hgl).trans f35
  refine hK _ _ ⟨⟨c5, c4⟩, ?_⟩
  clear hK K hcl hm1 hb1
  try simp only [Act.put, q1, q2, q3]
  refine rE 11 rfl fun K hK => ?_
  go_simp
  refine hK _ _ ⟨⟨c5, c4⟩, ?_⟩
  clear hK K
  try simp only [Act.put, q1, q2, q3]
  refine rE 12 rfl fun K hK => ?_
  go_simp
  have hgl1 : t.g < W1.heap.size := by omega
  have b2 : Below w.heap.size w (W1.alloc (.cells #[.string nm, .map (some w.heap.size)] 169)) := HB1.out.alloc (by omega) _
  have c52 : (W1.alloc (.cells #[.string nm, .map (some w.heap.size)] 169)).cell? ⟨t.g, 35, none⟩ = some (.slice sa x.sv.length sc) := ((below_alloc W1 _).cell (p := ⟨t.g, 35, none⟩) hgl1).trans c5
  have c42 : (W1.alloc (.cells #[.string nm, .map (some w.heap.size)] 169)).cell? ⟨t.g, 34, none⟩ = some (.map (some t.mb)) := ((below_alloc W1 _).cell (p := ⟨t.g, 34, none⟩) hgl1).trans c4
  have f52 : (W1.alloc (.cells #[.string nm, .map (some w.heap.size)] 169)).frozen? ⟨t.g, 35, none⟩ = false := ((below_alloc W1 _).frozen (p := ⟨t.g, 35, none⟩) hgl1).trans f5
  refine hK _ _ ⟨⟨c52, c42⟩, ?_⟩
  clear hK K
  try simp only [Act.put, q1, q2, q3]
  have hr0 := own_below HSR.out b2
  rw [hsv] at hr0
  obtain ⟨v', W3, hrun, hown, hgrow, _, hat⟩ := run_append_own_at (P := Tryz.prog) (W1.alloc (.cells #[.string nm, .map (some w.heap.size)] 169)) B 117 117 169 i0 _ 2 24 Tryz.underlying117 hi hz0 hz1 hz2 rfl (by decide) (.slice sa x.sv.length sc) x.sv.length _ hr0 ⟨W1.heap.size, 0, none⟩ 1 1 [.string nm, .map (some w.heap.size)] rfl (cells_new _ [.string nm, .map (some w.heap.size)] 169 _ rfl) (by intro u hu; simp at hu; rcases hu with rfl | rfl <;> rfl) (by unfold maxLen; omega) (by omega) (by simp; omega)
  obtain ⟨na, nc, hvn⟩ := formR hown
  subst hvn
  have hfg : Fr (fun b => t.sv.ownBlock = some b) (W1.alloc (.cells #[.string nm, .map (some w.heap.size)] 169)) W3 := by rw [hsv]; exact Fr.grown hgrow
  have HP : Hid (TrP B w t { x with sv := x.sv ++ [⟨nm, x.own⟩] } (W3.setCell ⟨t.g, 35, none⟩ (.slice na (x.sv.length + 1) nc))) := hid (HT.out.pushed hl8 hB b2 (HM1.out.fr (Fr.of_below (fun _ => False) (below_alloc _ _)) (fun z => z)) hfg hown (by
   rcases hat with z | z
   .exact .inl (by rw [hsv]; exact z)
   .exact .inr ⟨_, z, by simp; omega⟩))
  have HQ : Hid (SaveP B w t x nm (.returned (.int .i64 0)) (W3.setCell ⟨t.g, 35, none⟩ (.slice na (x.sv.length + 1) nc))) := .inr ⟨hl8, rfl, HP.out⟩
  have hgl2 : t.g < (W1.alloc (.cells #[.string nm, .map (some w.heap.size)] 169)).heap.size := by simp; omega
  have hbk := hfg.block t.g hgl2 HT.out.sg
  have c53 : W3.cell? ⟨t.g, 35, none⟩ = some (.slice sa x.sv.length sc) := (World.cell?_of_block (a := ⟨t.g, 35, none⟩) hbk).trans c52
  have c43 : W3.cell? ⟨t.g, 34, none⟩ = some (.map (some t.mb)) := (World.cell?_of_block (a := ⟨t.g, 34, none⟩) hbk).trans c42
  have f53 : W3.frozen? ⟨t.g, 35, none⟩ = false := (World.frozen?_of_block (a := ⟨t.g, 35, none⟩) hbk).trans f52
  clear hown hgrow hat hfg HP hbk hr0
  refine rE 13 rfl fun K hK => ?_
  refine step_append_run rfl (.tmp 15) (.tmp 23) 117 rfl _ _ rfl rfl _ _ hrun ?_
  refine hK _ _ ⟨⟨c53, c43⟩, ?_⟩
  clear hK K
  try simp only [Act.put, q1, q2, q3]
  clear hrun c52 c42 f52 c5 c4 f5 b2
  refine rL 14 rfl fun K hK => ?_
  go_simp
  refine hK _ _ ?_
  clear hK K
  try simp only [Act.put, q1, q2, q3]
  refine rL 15 rfl fun K hK => ?_
  go_simp
  refine hK _ _ ?_
  clear hK K
  try simp only [Act.put, q1, q2, q3]
  refine rL 16 rfl fun K hK => ?_
  go_simp
  refine hK _ _ ?_
  clear hK K
  try simp only [Act.put, q1, q2, q3]
  refine till_done (by kernel_rfl) ?_ _
  go_wp2
  refine bodyPost_ret (v := .int .i64 0) (by simp [results, Tryz.results49, go_sem]) rfl ?_
  exact HQ.out
end Go.Proofs.YtblkgicbimflhaaGreat
namespace Go.Proofs.YtblkgicbimflhaaGreat
open Go.ChangeShapes Go.WideShapes Go.ChangeAt Go.RowKit
set_option linter.unusedVariables false
set_option linter.unusedSimpArgs false
set_option maxRecDepth 100000
set_option maxHeartbeats 16000000
open Go.Shelf
attribute [local go_sem] Oper.semAt_some
def backL {α : Type} [Inhabited α] (zs : List α) (k : Nat) : List (Nat × α) := (List.range k).map (fun j => (zs.length - 1 - j, zs[zs.length - 1 - j]?.getD default))
theorem backL_succ {α : Type} [Inhabited α] (zs : List α) (k : Nat) : backL zs (k + 1) = backL zs k ++ [(zs.length - 1 - k, zs[zs.length - 1 - k]?.getD default)] := by simp [backL, List.range_succ]
theorem backL_len {α : Type} [Inhabited α] (zs : List α) (k : Nat) : (backL zs k).length = k := by simp [backL]
def encS (x : Nat × (ByteArray × Nat)) : Array Value := #[.int .i64 (x.1 : Int), .agg #[.string x.2.1, .map (some x.2.2)]]
theorem back1_in (F : Fence) (n : Nat) (h6 : F.fn 106) (hro : F.round = none) (hn : 1 <= n) (l Bs n₀ : Nat) (a : Option Addr) (cap : Nat) (zs : List (ByteArray × Nat)) (h8 : zs.length <= 8) (hBn : Bs < n₀) (J Jx : List (Nat × (ByteArray × Nat)) -> World -> Prop)
 (hY : ∀ pre x W, J pre W -> pre.length < zs.length -> YieldAt F (n - 1) Tryz.prog l (encS x) W fun e W' =>
  (e = .returned (.bool true) /\ J (pre ++ [x]) W' /\ Below n₀ W W') \/ (e = .returned (.bool false) /\ Jx (pre ++ [x]) W'))
 (W : World) (hBs : W.cell? ⟨Bs, 0, none⟩ = some (.slice a zs.length cap)) (hc : 0 < zs.length -> ∃ b, a = some ⟨b, 0, none⟩ /\ b < n₀ /\ ∀ j, j < zs.length -> W.cell? ⟨b, j * 2, none⟩ = some (.string (zs[j]?.getD default).1) /\ W.cell? ⟨b, j * 2 + 1, none⟩ = some (.map (some (zs[j]?.getD default).2))) (h0 : J [] W) :
 CallsIn F n Tryz.prog 106 #[.func (.yield l) #[] #[], .pointer (some ⟨Bs, 0, none⟩)] W fun e W' => (∃ v, e = .returned v) /\
  ((∃ ys, ys = backL zs zs.length /\ J ys W') \/ (∃ pre, (∃ k, 0 < k /\ k <= zs.length /\ pre = backL zs k) /\ Jx pre W')) := by
 refine callsIn_of_wp Tryz.func106 rfl h6 ?_ hro
 simp only [Tryz.ntmps106, List.size_toArray, List.length_cons, List.length_nil, Nat.reduceAdd, Nat.reduceSub, Array.replicate_succ, Array.replicate_zero, List.push_toArray, List.append_toArray, List.nil_append, List.cons_append]
 have hw0 : IntKind.i64.wrap ((zs.length : Int) - 1) = (zs.length : Int) - 1 := by simp only [IntKind.wrap_i64, wrap64]; omega
 gi_wp2
 gi_loopw [3] (fun i wr => ∃ k : Nat, k <= zs.length /\ i = .int .i64 ((zs.length : Int) - 1 - k) /\ J (backL zs k) wr /\ Below n₀ W wr)
  (fun i _ => (intOf i + 1).toNat)
 case atStart => exact ⟨0, Nat.zero_le _, by simp, h0, Below.refl _ _⟩
 case round =>
  obtain ⟨k, hk, rfl, hJs, hnx⟩ := hrel
  by_cases hlt : k < zs.length
  .obtain ⟨b, rfl, hb, hcs⟩ := hc (by omega)
   obtain ⟨m, hm⟩ : ∃ m : Nat, (zs.length : Int) - 1 - k = m := ⟨zs.length - 1 - k, by omega⟩
   have hmn : zs.length - 1 - k = m := by omega
   obtain ⟨c0, c1⟩ := hcs m (by omega)
   have HBS := hid (backL_succ zs k)
   rw [hmn] at HBS
   obtain ⟨fn, tmps, assign, body, hy, hR⟩ := hY _ (m, zs[m]?.getD default) wr hJs (by rw [backL_len]; exact hlt)
   unfold encS at hy
   dsimp only at hy
   have d0 : wr.cell? ⟨b, m * 2, none⟩ = some (.string (zs[m]?.getD default).1) := ct hnx hb c0
   have d1 : wr.cell? ⟨b, m * 2 + 1, none⟩ = some (.map (some (zs[m]?.getD default).2)) := ct hnx hb c1
   have d2 : wr.cell? ⟨Bs, 0, none⟩ = some (.slice (some ⟨b, 0, none⟩) zs.length cap) := ct hnx hBn hBs
   have hmi : (m : Int) < zs.length := by omega
   have hw1 : IntKind.i64.wrap ((m : Int) - 1) = (m : Int) - 1 := by simp only [IntKind.wrap_i64, wrap64]; omega
   have HM := hid hm
   rw [hm]
   clear hm hmn hcs c0 c1 hc
   generalize hzz : zs[m]?.getD default = zz at *
   obtain ⟨z1, z2⟩ := zz
   dsimp only at hy d0 d1
   gi_wp2
   refine hR.mono ?_
   rintro e W3 (⟨rfl, hJ3, hk3⟩ | ⟨rfl, hJx3⟩)
   .rw [<- HBS.out] at hJ3
    clear hy hR
    gi_wp2
    go_roundw
    case rel => exact ⟨k + 1, by omega, by have := HM.out; congr 1; omega, hJ3, hnx.trans hk3⟩
    case measure => simp [intOf]
   .rw [<- HBS.out] at hJx3
    clear hy hR
    gi_wp2
    refine bodyPost_ret (results_none rfl _ _ _) rfl ?_
    exact ⟨⟨_, rfl⟩, .inr ⟨_, ⟨k + 1, by omega, by omega, rfl⟩, hJx3⟩⟩
  .obtain rfl : k = zs.length := by omega
   have hneg : ¬ (0 : Int) <= (zs.length : Int) - 1 - zs.length := by omega
   gi_wp2
   go_end0
   exact ⟨⟨_, rfl⟩, .inl hJs⟩
theorem backward_in (F : Fence) (n : Nat) (h5 : F.fn 93) (hro : F.round = none) (a : Option Addr) (len cap : Nat) (w : World) :
 CallsIn F n Tryz.prog 93 #[.slice a len cap] w fun e w' => e = .returned (.func (.func 106) #[] #[.pointer (some ⟨w.heap.size, 0, none⟩)]) /\ w' = w.alloc (.cells #[.slice a len cap] 117) := by
 refine callsIn_of_wp Tryz.func93 rfl h5 ?_ hro
 simp only [Tryz.ntmps93, List.size_toArray, List.length_cons, List.length_nil, Nat.reduceAdd, Nat.reduceSub, Array.replicate_succ, Array.replicate_zero, List.push_toArray, List.append_toArray, List.nil_append, List.cons_append]
 gi_wp2
 go_ret
 exact ⟨rfl, rfl⟩
def SvAt (n₀ : Nat) (W : World) (a : Option Addr) (zs : List (ByteArray × Nat)) : Prop := 0 < zs.length -> ∃ b, a = some ⟨b, 0, none⟩ /\ b < n₀ /\ ∀ j, j < zs.length -> W.cell? ⟨b, j * 2, none⟩ = some (.string (zs[j]?.getD default).1) /\ W.cell? ⟨b, j * 2 + 1, none⟩ = some (.map (some (zs[j]?.getD default).2))
theorem SvAt.below {n₀ : Nat} {A B : World} (h : Below n₀ A B) {a : Option Addr} {zs : List (ByteArray × Nat)} (hs : SvAt n₀ A a zs) : SvAt n₀ B a zs := fun hp => by
 obtain ⟨b, e, hb, hc⟩ := hs hp
 exact ⟨b, e, hb, fun j hj => ⟨(h.cell (p := ⟨b, j * 2, none⟩) hb).trans (hc j hj).1, (h.cell (p := ⟨b, j * 2 + 1, none⟩) hb).trans (hc j hj).2⟩⟩
theorem back_stops (F : Fence) (n : Nat) (h6 : F.fn 106) (hro : F.round = none) (hn : 1 <= n) (Bs n₀ : Nat) (a : Option Addr) (cap : Nat) (zs : List (ByteArray × Nat)) (h8 : zs.length <= 8) (w : World) (hBs : Bs < n₀) (hn₀ : n₀ <= w.heap.size) (hc : w.cell? ⟨Bs, 0, none⟩ = some (.slice a zs.length cap)) (hI : SvAt n₀ w a zs) :
 SeqStopsK F n Tryz.prog 106 #[.pointer (some ⟨Bs, 0, none⟩)] encS (Below n₀) (fun ys => ys = backL zs zs.length) (fun pre => ∃ k, 0 < k /\ k <= zs.length /\ pre = backL zs k) zs.length w := fun l J Jx W hW _ _ hY h0 => by
 have hc' := ((hW.mono hn₀).cell (p := ⟨Bs, 0, none⟩) hBs).trans hc
 exact back1_in F n h6 hro hn l Bs n₀ a cap zs h8 hBs J Jx hY W hc' (hI.below (hW.mono hn₀)) h0
end Go.Proofs.YtblkgicbimflhaaGreat
namespace Go.Proofs.YtblkgicbimflhaaGreat
open Go.ChangeShapes Go.WideShapes Go.ChangeAt Go.RowKit
set_option linter.unusedVariables false
set_option linter.unusedSimpArgs false
set_option maxRecDepth 100000
set_option maxHeartbeats 16000000
open Go.Shelf
attribute [local go_sem] Oper.semAt_some
theorem Blk.owned {W W' : World} {b : Nat} {cs : List Value} {row : Option Nat} (h : Blk W b cs) (hg : W.grownBy W' row) (hr : ∀ r, row = some r -> ∃ o : Obj, W.heap[r]? = some o /\ o.isCells = false) : Blk W' b cs := fun j hj => by
 have h1 := (h j hj).1
 rw [List.getElem?_eq_getElem hj] at h1 ⊢
 exact ⟨cell_kept h1 hg hr, (frozen_kept h1 hg hr).trans (h j hj).2⟩
def zsOf (ss : List Sav) (sm : List (Nat × List (Spt × Vsn))) : List (ByteArray × Nat) := List.zipWith (fun s p => (s.nm, p.1)) ss sm
theorem zsOf_len {ss : List Sav} {sm : List (Nat × List (Spt × Vsn))} (h : sm.length = ss.length) : (zsOf ss sm).length = ss.length := by unfold zsOf; simp [h]
theorem zsOf_at {ss : List Sav} {sm : List (Nat × List (Spt × Vsn))} {j : Nat} (h1 : j < ss.length) (h2 : j < sm.length) : (zsOf ss sm)[j]?.getD default = (ss[j].nm, sm[j].1) := by
 unfold zsOf
 rw [List.getElem?_zipWith, List.getElem?_eq_getElem h1, List.getElem?_eq_getElem h2]
 rfl
theorem TrM.svAt {B : Nat} {w : World} {t : TG} {x : Txn} (h : TrM B w t x) {a : Option Addr} {c : Nat} (hsv : t.sv = .slice a x.sv.length c) : SvAt w.heap.size w a (zsOf x.sv t.sm) := fun hp => by
 rw [zsOf_len h.sl] at hp
 obtain ⟨b, c', e, _, _, hb⟩ := own_shape h.sr hp
 rw [e] at hsv
 injection hsv with e1 _ e3
 refine ⟨b, e1.symm, hb, fun j hj => ?_⟩
 rw [zsOf_len h.sl] at hj
 have h2 : j < t.sm.length := by rw [h.sl]; exact hj
 obtain ⟨k1, k2⟩ := svC_at x.sv (t.sm.map Prod.fst) j hj (by rw [List.length_map]; exact h2)
 rw [List.getElem_map] at k2
 rw [zsOf_at hj h2]
 exact ⟨own_cells h.sr e k1, own_cells h.sr e k2⟩
def newAx (w : World) (g : Nat) (sv : Value) (nm : ByteArray) (x : Nat × (ByteArray × Nat)) (a' : Act) (W : World) : Prop := ∃ Bx, w.heap.size + 1 + 1 < Bx /\ Bx < W.heap.size /\ Blk W Bx [.string x.2.1, .map (some x.2.2)] /\ a' = { tmps := #[.pointer (some ⟨g, 0, none⟩), .string nm, undef, .pointer (some ⟨w.heap.size, 0, none⟩), .pointer (some ⟨w.heap.size + 1, 0, none⟩), .int .i64 (x.1 : Int), .pointer (some ⟨Bx, 0, none⟩), .pointer (some ⟨g, 0, none⟩), .pointer (some ⟨g, 0, none⟩), .pointer (some ⟨g, 35, none⟩), sv, .func (.func 106) #[] #[.pointer (some ⟨w.heap.size + 1 + 1, 0, none⟩)], .int .i64 (x.1 : Int), .agg #[.string x.2.1, .map (some x.2.2)], undef, undef, undef, undef, undef], defers := [] }
theorem bat_t {x y : ByteArray} (h : (x.toList == y.toList) = true) : x = y := by
 rw [Lib.toList_data, Lib.toList_data, beq_iff_eq] at h
 exact ba_ext h
theorem bat_f {x y : ByteArray} (h : (x.toList == y.toList) = false) : x ≠ y := fun e => by rw [e] at h; simp at h
theorem saved_none {ss : List Sav} {sm : List (Nat × List (Spt × Vsn))} {nm : ByteArray} (hl : sm.length = ss.length) (h : ∀ y ∈ backL (zsOf ss sm) (zsOf ss sm).length, y.2.1 ≠ nm) : savedF ss nm = none := lastK_none (fun s hs => by
 obtain ⟨j, hj, rfl⟩ := List.getElem_of_mem hs
 have hz := zsOf_len hl
 have hm : (j, (zsOf ss sm)[j]?.getD default) ∈ backL (zsOf ss sm) (zsOf ss sm).length := by
  unfold backL
  refine List.mem_map.2 ⟨(zsOf ss sm).length - 1 - j, List.mem_range.2 (by omega), ?_⟩
  rw [show (zsOf ss sm).length - 1 - ((zsOf ss sm).length - 1 - j) = j by omega]
 have h2 := h _ hm
 rw [zsOf_at hj (by omega)] at h2
 exact decide_eq_false h2)
theorem saved_some {ss : List Sav} {sm : List (Nat × List (Spt × Vsn))} {nm : ByteArray} (hl : sm.length = ss.length) {k : Nat} (hk0 : 0 < k) (hk : k <= (zsOf ss sm).length) {p : List (Nat × (ByteArray × Nat))} {y : Nat × (ByteArray × Nat)} (e : backL (zsOf ss sm) k = p ++ [y]) (hy : y.2.1 = nm) (hp : ∀ z ∈ p, z.2.1 ≠ nm) : savedF ss nm = some y.1 := by
 have hz := zsOf_len hl
 obtain ⟨m, rfl⟩ : ∃ m, k = m + 1 := ⟨k - 1, by omega⟩
 rw [backL_succ] at e
 obtain ⟨e1, e2⟩ := List.append_inj' e rfl
 injection e2 with e2 _
 have hj : (zsOf ss sm).length - 1 - m < ss.length := by omega
 rw [<- e2] at hy ⊢
 simp only at hy ⊢
 rw [zsOf_at hj (by omega)] at hy
 refine lastK_hit hj (decide_eq_true hy) (fun s hs => ?_)
 obtain ⟨i, hi, rfl⟩ := List.getElem_of_mem hs
 rw [List.length_drop] at hi
 rw [List.getElem_drop]
 refine decide_eq_false (fun z => ?_)
 have hq : (zsOf ss sm).length - 1 - m + 1 + i < ss.length := by omega
 have hm : ((zsOf ss sm).length - 1 - m + 1 + i, (zsOf ss sm)[(zsOf ss sm).length - 1 - m + 1 + i]?.getD default) ∈ p := by
  rw [<- e1]
  unfold backL
  refine List.mem_map.2 ⟨m - 1 - i, List.mem_range.2 (by omega), ?_⟩
  rw [show (zsOf ss sm).length - 1 - (m - 1 - i) = (zsOf ss sm).length - 1 - m + 1 + i by omega]
 have := hp _ hm
 rw [zsOf_at hq (by omega)] at this
 exact this z
theorem newest_any (B : Nat) (w : World) (t : TG) (x : Txn) (h : TrM B w t x) (nm : ByteArray) :
 Calls Tryz.prog 74 #[.pointer (some ⟨t.g, 0, none⟩), .string nm] w fun e w' => e = .returned (.int .i64 (savedI (savedF x.sv nm))) /\ Below w.heap.size w w' := by
 have c35 := h.c35.1
 obtain ⟨sa, sc, hsv⟩ := h.svf
 rw [hsv] at c35
 have hgl := h.gl
 have hl8 := h.s8
 have hzl := zsOf_len h.sl
 have HSV := hid (h.svAt hsv)
 obtain ⟨zs, hzs⟩ : ∃ zs, zs = zsOf x.sv t.sm := ⟨_, rfl⟩
 rw [<- hzs] at hzl HSV
 rw [<- hzl] at c35 hl8
 have HZS := hid hzs
 have HZL := hid hzl
 clear hzs hzl
 refine (callsIn_wide (n := 3)).1 ?_
 refine callsIn_of_wp_marks Tryz.func74 rfl trivial ?_ rfl
 simp only [Tryz.ntmps74, List.size_toArray, List.length_cons, List.length_nil, Nat.reduceAdd, Nat.reduceSub, Array.replicate_succ, Array.replicate_zero, List.push_toArray, List.append_toArray, List.nil_append, List.cons_append]
 gi_wp2_with (refine ⟨trivial, ?_⟩; gi_at_call 93; refine (backward_in Fence.wide _ trivial rfl _ _ _ _).mono ?_; rintro e w' ⟨rfl, rfl⟩)
 obtain ⟨W0, hW0⟩ : ∃ W0, ((w.alloc (.cells #[.string nm] 9)).alloc (.cells #[.int .i64 0] 3)).alloc (.cells #[.slice sa zs.length sc] 117) = W0 := ⟨_, rfl⟩
 have hsz : W0.heap.size = w.heap.size + 1 + 1 + 1 := by rw [<- hW0]; simp
 have hB0 : Below w.heap.size w W0 := by rw [<- hW0]; exact (((Below.refl _ w).alloc (Nat.le_refl _) _).alloc (by simp) _).alloc (by simp; omega) _
 have KA : Blk W0 w.heap.size [.string nm] := by rw [<- hW0]; exact blkA w [.string nm] [.int .i64 0] [.slice sa zs.length sc] _ _ _
 have KB : Blk W0 (w.heap.size + 1) [.int .i64 0] := by rw [<- hW0]; exact blkB w [.string nm] [.int .i64 0] [.slice sa zs.length sc] _ _ _
 have KC : Blk W0 (w.heap.size + 1 + 1) [.slice sa zs.length sc] := by rw [<- hW0]; exact blkC w [.string nm] [.int .i64 0] [.slice sa zs.length sc] _ _ _
 have c0 : W0.cell? ⟨w.heap.size, 0, none⟩ = some (.string nm) := (KA 0 (by simp)).1
 have c1 : W0.cell? ⟨w.heap.size + 1, 0, none⟩ = some (.int .i64 0) /\ W0.frozen? ⟨w.heap.size + 1, 0, none⟩ = false := KB 0 (by simp)
 have c2 : W0.cell? ⟨w.heap.size + 1 + 1, 0, none⟩ = some (.slice sa zs.length sc) := (KC 0 (by simp)).1
 clear KA KB KC
 rw [hW0]
 clear hW0
 have HT := hid h
 clear h c35 hsv
 refine wpIn_rangeFunc_ownH rfl (by omega) (gf := 106) (lb := #[.pointer (some ⟨w.heap.size + 1 + 1, 0, none⟩)]) rfl trivial (enters_of Tryz.func106 (by kernel_rfl) rfl)
  (back_stops Fence.wide _ trivial rfl (by omega) (w.heap.size + 1 + 1) W0.heap.size sa sc zs hl8 W0 (by omega) (Nat.le_refl _) c2 (fun hp => by obtain ⟨b, e, hb, hc⟩ := HSV.out.below hB0 hp; exact ⟨b, e, by omega, hc⟩)) belowK_t (belowK_b (Nat.le_refl _)) (Below.refl _ _) (fun _ => rfl)
  (fun pre W => (w.heap.size + 1 + 1 < W.heap.size /\ (∀ y ∈ pre, y.2.1 ≠ nm) /\ W.cell? ⟨w.heap.size, 0, none⟩ = some (.string nm) /\ W.cell? ⟨w.heap.size + 1, 0, none⟩ = some (.int .i64 0) /\ W.frozen? ⟨w.heap.size + 1, 0, none⟩ = false) /\ Below w.heap.size w W)
  (fun c pre W => (c = .ret /\ ∃ p y, pre = p ++ [y] /\ y.2.1 = nm /\ (∀ z ∈ p, z.2.1 ≠ nm) /\ W.cell? ⟨w.heap.size + 1, 0, none⟩ = some (.int .i64 (y.1 : Int))) /\ Below w.heap.size w W)
  (OwnFrom.and (Own.from (fun s A B row hs hg hr => ⟨Nat.lt_of_lt_of_le hs.1 hg.size, hs.2.1, cell_kept hs.2.2.1 hg hr, cell_kept hs.2.2.2.1 hg hr, (frozen_kept hs.2.2.2.1 hg hr).trans hs.2.2.2.2⟩) _) (ownFrom_below (Nat.le_refl _) (by omega)))
  (fun c => OwnFrom.and (Own.from (fun s A B row hs hg hr => by obtain ⟨e, p, y, k1, k2, k3, k4⟩ := hs; exact ⟨e, p, y, k1, k2, k3, cell_kept k4 hg hr⟩) _) (ownFrom_below (Nat.le_refl _) (by omega)))
  ⟨⟨by omega, by simp, c0, c1.1, c1.2⟩, hB0⟩
  (newAx w t.g (.slice sa zs.length sc) nm)
  (fun y a' => fun s A B row hs hg hr => by
   obtain ⟨Bx, k1, k2, k3, k4⟩ := hs
   exact ⟨Bx, k1, Nat.lt_of_lt_of_le k2 hg.size, k3.owned hg (fun r e => (hr r e).2), k4⟩) ?assign ?body ?done ?stop
 case assign =>
  rintro l pre y W K ⟨⟨k1, k2, k3, k4, k5⟩, k6⟩ hK
  have ba := below_alloc W (.cells #[.string y.2.1, .map (some y.2.2)] 169)
  have hsW := k6.size
  have q1 := (ba.cell (p := ⟨w.heap.size, 0, none⟩) (by show w.heap.size < _; omega)).trans k3
  have q2 := (ba.cell (p := ⟨w.heap.size + 1, 0, none⟩) (by show w.heap.size + 1 < _; omega)).trans k4
  have q3 := (ba.frozen (p := ⟨w.heap.size + 1, 0, none⟩) (by show w.heap.size + 1 < _; omega)).trans k5
  have q4 := k6.alloc hsW (.cells #[.string y.2.1, .map (some y.2.2)] 169)
  have kn := blk_new W [.string y.2.1, .map (some y.2.2)] 169
  have HH := hid (hK { tmps := #[.pointer (some ⟨t.g, 0, none⟩), .string nm, undef, .pointer (some ⟨w.heap.size, 0, none⟩), .pointer (some ⟨w.heap.size + 1, 0, none⟩), .int .i64 (y.1 : Int), .pointer (some ⟨W.heap.size, 0, none⟩), .pointer (some ⟨t.g, 0, none⟩), .pointer (some ⟨t.g, 0, none⟩), .pointer (some ⟨t.g, 35, none⟩), .slice sa zs.length sc, .func (.func 106) #[] #[.pointer (some ⟨w.heap.size + 1 + 1, 0, none⟩)], .int .i64 (y.1 : Int), .agg #[.string y.2.1, .map (some y.2.2)], undef, undef, undef, undef, undef], defers := [] } (W.alloc (.cells #[.string y.2.1, .map (some y.2.2)] 169)) ((KeepsOthers.alloc _ _).from _) ((Below.refl W0.heap.size W).alloc (by omega) _) ⟨⟨by simp; omega, k2, q1, q2, q3⟩, q4⟩ ⟨W.heap.size, k1, by simp, kn, rfl⟩)
  clear hK k1 k2 k3 k4 k5 k6 q1 q2 q3 q4 kn ba
  simp only [encS]
  gi_wp2
  exact HH.out
 case body =>
  rintro l pre y a' W hl ⟨r, hr⟩ ⟨⟨k1, k2, k3, k4, k5⟩, k6⟩ ⟨Bx, m1, m2, m3, rfl⟩ hlt
  have n0 : W.cell? ⟨Bx, 0, none⟩ = some (.string y.2.1) := (m3 0 (by simp)).1
  clear m3
  gi_wp2
  .rename_i hx
   exact ⟨(KeepsOthers.setCell _ _ _).from _, ⟨rfl, pre, y, rfl, bat_t hx, k2, World.cell?_setCell_same' _ _ _ (by rw [k4]; rfl)⟩, k6.setCell (p := ⟨w.heap.size + 1, 0, none⟩) (by simp) _⟩
  .rename_i hx
   exact ⟨(KeepsOthers.refl _).from _, Below.refl _ _, ⟨k1, fun z hz => (List.mem_append.1 hz).elim (k2 z) (fun e => by simp at e; subst e; exact bat_f hx), k3, k4, k5⟩, k6⟩
 case done =>
  rintro D ys W hD rfl ⟨⟨k1, k2, k3, k4, k5⟩, k6⟩ hK
  have HV : Hid (savedI (savedF x.sv nm) = -1) := hid (by rw [HZS.out] at k2; rw [saved_none HT.out.sl k2]; rfl)
  gi_wp2
  have hK' := (KeepsOthers.setCell W ⟨w.heap.size + 1, 0, none⟩ (.int .i64 (-1))).same D _ hK rfl
  refine ⟨by simp, .inl ⟨_, _, rfl, run_takeDeferred hK', ?_⟩⟩
  have hc5 := cell_kept (World.cell?_setCell_same' W ⟨w.heap.size + 1, 0, none⟩ (.int .i64 (-1)) (by rw [k4]; rfl)) (grownBy_putObj' _ D (.deferred none)) (fun r e => by cases e; exact ⟨_, hK', rfl⟩)
  refine ⟨.int .i64 (-1), ?_, by rw [HV.out], (k6.setCell (p := ⟨w.heap.size + 1, 0, none⟩) (by simp) _).trans (belowK_b (w := w) (Nat.le_refl _) _ D _ _ (by omega) hK' rfl rfl)⟩
  simp [results, Tryz.results74, go_sem, hc5]
 case stop =>
  rintro D c pre W hD ⟨k, hk0, hk, rfl⟩ ⟨⟨rfl, p, y, e1, e2, e3, e4⟩, k6⟩ hK
  have HV : Hid (savedI (savedF x.sv nm) = (y.1 : Int)) := hid (by rw [HZS.out] at hk e1; rw [saved_some HT.out.sl hk0 hk e1 e2 e3]; rfl)
  gi_wp2
  refine ⟨by simp, .inl ⟨_, _, rfl, run_takeDeferred hK, ?_⟩⟩
  have hc5 := cell_kept e4 (grownBy_putObj' _ D (.deferred none)) (fun r e => by cases e; exact ⟨_, hK, rfl⟩)
  refine ⟨.int .i64 (y.1 : Int), ?_, by rw [HV.out], k6.trans (belowK_b (w := w) (Nat.le_refl _) W D _ _ (by omega) hK rfl rfl)⟩
  simp [results, Tryz.results74, go_sem, hc5]
end Go.Proofs.YtblkgicbimflhaaGreat
