import Derived.Test.YtblkgicbimflhaaGreatQAS
import Derived.Test.YtblkgicbimflhaaGreatQAM
import Derived.Test.YtblkgicbimflhaaGreatQAJ
import Derived.Deep.CutRange
import Derived.Deep.DeepCutAuto
namespace Go.Proofs.YtblkgicbimflhaaGreat
open Go.ChangeShapes Go.WideShapes Go.ChangeAt Go.RowKit
set_option linter.unusedVariables false
set_option linter.unusedSimpArgs false
set_option maxRecDepth 100000
set_option maxHeartbeats 16000000
open Go.Shelf
attribute [local go_sem] Oper.semAt_some
theorem own_owned {W W' : World} {B e K n : Nat} {v : Value} {xs : List Value} {row : Option Nat} (h : W.ownsRow B e K v n xs) (hg : W.grownBy W' row) (hr : ∀ r, row = some r -> ∃ o : Obj, W.heap[r]? = some o /\ o.isCells = false) : W'.ownsRow B e K v n xs := by
 obtain ⟨h1, h2⟩ := h
 refine ⟨h1, ?_⟩
 rcases h2 with h2 | ⟨g, cap, cur, rfl, hg1, hg2, hg3⟩
 .exact .inl h2
 .refine .inr ⟨g, cap, cur, rfl, hg1, ?_, hg3⟩
  rw [hg.block g (Array.getElem?_eq_some_iff.1 hg2).1 (fun e2 => by
   obtain ⟨o, ho, hc⟩ := hr g e2.symm
   rw [hg2] at ho
   injection ho with ho
   rw [<- ho] at hc
   cases hc)]
  exact hg2
theorem ii_stops (F : Fence) (m : Nat) (h6 : F.fn 83) (hro : F.round = none) (hm : 1 <= m) (Bs ob oo B : Nat) (S : Nat -> Prop) (ks us : List Int) (hul : us.length = ks.length) (kv vv : Value) (hBs : S Bs) (hob : S ob) (hkS : ∀ g, kv.ownBlock = some g -> S g) (hvS : ∀ g, vv.ownBlock = some g -> S g) (hn : ks.length <= 1048576) (w : World) (hS : ∀ b, S b -> b < w.heap.size) (c0 : w.cell? ⟨Bs, 0, none⟩ = some (.pointer (some ⟨ob, oo, none⟩))) (c1 : w.cell? ⟨ob, oo, none⟩ = some kv) (c2 : w.cell? ⟨ob, oo + 1, none⟩ = some vv) (hK : w.ownsRow B 3 1 kv ks.length (ks.map (Value.int .i64))) (hV : w.ownsRow B 3 1 vv ks.length (us.map (Value.int .i64))) :
 SeqStopsK F m Tryz.prog 83 #[.pointer (some ⟨Bs, 0, none⟩)] encP (KIn S) (fun ys => ys = ks.zip us) (fun _ => True) ks.length w := fun l J Jx W hW _ _ hY h0 =>
 all1_ii F m h6 hro hm l Bs ob oo B S ks us hul kv vv hBs hob hkS hvS hn J Jx hY W ((hW.cell (p := ⟨Bs, 0, none⟩) (hS _ hBs)).trans c0) ((hW.cell (p := ⟨ob, oo, none⟩) (hS _ hob)).trans c1) ((hW.cell (p := ⟨ob, oo + 1, none⟩) (hS _ hob)).trans c2) (own_below hK hW) (own_below hV hW) h0
theorem iv_stops (F : Fence) (m : Nat) (h6 : F.fn 84) (hro : F.round = none) (hm : 1 <= m) (Bs ob oo B : Nat) (S : Nat -> Prop) (ks : List Int) (f : Int -> Value × Value) (hff : ∀ y, (∃ a n c, (f y).1 = .slice a n c) /\ ∃ a n c, (f y).2 = .slice a n c) (kv vv : Value) (hBs : S Bs) (hob : S ob) (hkS : ∀ g, kv.ownBlock = some g -> S g) (hvS : ∀ g, vv.ownBlock = some g -> S g) (hn : ks.length <= 1048576) (w : World) (hS : ∀ b, S b -> b < w.heap.size) (c0 : w.cell? ⟨Bs, 0, none⟩ = some (.pointer (some ⟨ob, oo, none⟩))) (c1 : w.cell? ⟨ob, oo, none⟩ = some kv) (c2 : w.cell? ⟨ob, oo + 1, none⟩ = some vv) (hK : w.ownsRow B 3 1 kv ks.length (ks.map (Value.int .i64))) (hV : w.ownsRow B 155 2 vv ks.length (ks.flatMap (fun y => [(f y).1, (f y).2]))) :
 SeqStopsK F m Tryz.prog 84 #[.pointer (some ⟨Bs, 0, none⟩)] (encV f ks) (KIn S) (fun ys => ys = ks.attach) (fun _ => True) ks.length w := fun l J Jx W hW _ _ hY h0 =>
 all1_iv F m h6 hro hm l Bs ob oo B S ks f hff kv vv hBs hob hkS hvS hn J Jx hY W ((hW.cell (p := ⟨Bs, 0, none⟩) (hS _ hBs)).trans c0) ((hW.cell (p := ⟨ob, oo, none⟩) (hS _ hob)).trans c1) ((hW.cell (p := ⟨ob, oo + 1, none⟩) (hS _ hob)).trans c2) (own_below hK hW) (own_below hV hW) h0
theorem gr_push {b : Nat} {w : World} {v : Value} {ps : List (Int × Int)} {p : Int × Int} (h : w.ownsRow b 92 2 v (ps.length + 1) (ps.flatMap pairV ++ pairV p)) : Gr pairV 92 2 b w v (ps ++ [p]) := by
 unfold Gr
 rw [List.length_append, List.flatMap_append]
 simpa using h
theorem keeps_fr {B : Nat} {T : Nat -> Prop} {W W' : World} (h : Fr T W W') (hc : ∀ g o, T g -> W.heap[g]? = some o -> o.isCells = true) : KeepsFrom B W W' := ⟨h.size, fun k o _ h0 ho => (h.block k (Array.getElem?_eq_some_iff.1 h0).1 (fun z => by rw [hc k o z h0] at ho; cases ho)).trans h0⟩
theorem blk_cells {W : World} {b : Nat} {cs : List Value} (h : Blk W b cs) (hl : 0 < cs.length) {o : Obj} (ho : W.heap[b]? = some o) : o.isCells = true := by
 have h1 := (h 0 hl).1
 rw [List.getElem?_eq_getElem hl] at h1
 simp only [World.cell?, ho] at h1
 cases o <;> first | rfl | (simp at h1)
theorem own_cellsO {W : World} {B e K n g : Nat} {v : Value} {xs : List Value} (h : W.ownsRow B e K v n xs) (hg : v.ownBlock = some g) {o : Obj} (ho : W.heap[g]? = some o) : o.isCells = true := by
 rcases h.2 with ⟨h2, _⟩ | ⟨g', cap, cur, rfl, h3, h4, _⟩
 .rw [h2] at hg; simp [Value.ownBlock] at hg
 .have : g' = g := by simpa [Value.ownBlock] using hg
  subst this
  rw [h4] at ho
  injection ho with ho
  rw [<- ho]
  rfl
def PairI (w : World) (b : Nat) (pre : List (Int × Int)) (W : World) : Prop := (∃ pv, Blk W (w.heap.size + 1) [pv] /\ Gr pairV 92 2 b W pv pre) /\ b <= W.heap.size /\ Below w.heap.size w W
theorem pairsIn_any (B : Nat) (kv vv : Value) (ks us : List Int) (w : World) (hul : us.length = ks.length) (hn : ks.length <= 1048575) (hK : w.ownsRow B 3 1 kv ks.length (ks.map (Value.int .i64))) (hV : w.ownsRow B 3 1 vv ks.length (us.map (Value.int .i64))) :
 Calls Tryz.prog 45 #[.agg #[kv, vv]] w fun e w' => ∃ pv, e = .returned pv /\ Gr pairV 92 2 w.heap.size w' pv (ks.zip us) /\ Below w.heap.size w w' := by
 obtain ⟨i0, hi, hz0, hz1, hz2⟩ := info_parts infoPr
 obtain ⟨ka, kc, hkf⟩ := formR hK
 obtain ⟨va, vc, hvf⟩ := formR hV
 have hkl : ∀ g, kv.ownBlock = some g -> g < w.heap.size := fun g hg => (hK.lt g hg).2
 have hvl : ∀ g, vv.ownBlock = some g -> g < w.heap.size := fun g hg => (hV.lt g hg).2
 subst hkf hvf
 obtain ⟨W0, hW0⟩ : ∃ W0, ((w.alloc (.cells #[.slice ka ks.length kc, .slice va ks.length vc] 125)).alloc (.cells #[.slice none 0 0] 36)).alloc (.cells #[.pointer (some ⟨w.heap.size, 0, none⟩)] 176) = W0 := ⟨_, rfl⟩
 have hsz : W0.heap.size = w.heap.size + 1 + 1 + 1 := by rw [<- hW0]; simp
 have hB0 : Below w.heap.size w W0 := by rw [<- hW0]; exact (((Below.refl _ w).alloc (Nat.le_refl _) _).alloc (by simp) _).alloc (by simp; omega) _
 have KA : Blk W0 w.heap.size [.slice ka ks.length kc, .slice va ks.length vc] := by rw [<- hW0]; exact blkA w [.slice ka ks.length kc, .slice va ks.length vc] [.slice none 0 0] [.pointer (some ⟨w.heap.size, 0, none⟩)] _ _ _
 have KB : Blk W0 (w.heap.size + 1) [.slice none 0 0] := by rw [<- hW0]; exact blkB w [.slice ka ks.length kc, .slice va ks.length vc] [.slice none 0 0] [.pointer (some ⟨w.heap.size, 0, none⟩)] _ _ _
 have KC : Blk W0 (w.heap.size + 1 + 1) [.pointer (some ⟨w.heap.size, 0, none⟩)] := by rw [<- hW0]; exact blkC w [.slice ka ks.length kc, .slice va ks.length vc] [.slice none 0 0] [.pointer (some ⟨w.heap.size, 0, none⟩)] _ _ _
 have HSQ := hid (ii_stops Fence.wide 2 trivial rfl (by omega) (w.heap.size + 1 + 1) w.heap.size 0 B (fun b => b < w.heap.size + 1 \/ b = w.heap.size + 1 + 1) ks us hul (.slice ka ks.length kc) (.slice va ks.length vc) (.inr rfl) (.inl (by omega)) (fun g hg => .inl (by have := hkl g hg; omega)) (fun g hg => .inl (by have := hvl g hg; omega)) (by omega) W0 (fun b hb => by rcases hb with z | z <;> omega) (KC 0 (by simp)).1 (KA 0 (by simp)).1 (KA 1 (by simp)).1 (own_below hK hB0) (own_below hV hB0))
 have HKB := hid KB
 clear KA KB KC hK hV hkl hvl
 refine (callsIn_wide (n := 3)).1 ?_
 refine callsIn_of_wp_marks Tryz.func45 rfl trivial ?_ rfl
 simp only [Tryz.ntmps45, List.size_toArray, List.length_cons, List.length_nil, Nat.reduceAdd, Nat.reduceSub, Array.replicate_succ, Array.replicate_zero, List.push_toArray, List.append_toArray, List.nil_append, List.cons_append]
 gi_wp2_with (refine ⟨trivial, ?_⟩; gi_at_call 66; refine (all_in_ii Fence.wide _ trivial rfl _ _ _).mono ?_; rintro e w' ⟨rfl, rfl⟩)
 try rw [hW0]
 clear hW0
 refine wpIn_rangeFunc_ownG rfl (by omega) (gf := 83) (lb := #[.pointer (some ⟨w.heap.size + 1 + 1, 0, none⟩)]) rfl trivial (enters_of Tryz.func83 (by kernel_rfl) rfl)
  HSQ.out KIn.trans (fun W l o o' hl _ _ _ => KIn.put (fun z => by rcases z with z | z <;> omega)) (Below.refl _ _) (fun _ => rfl)
  (PairI w W0.heap.size)
  (fun _ _ _ => False)
  (fun s A B row hs hg hr => by
   obtain ⟨⟨pv, k1, k2⟩, k4, k3⟩ := hs
   exact ⟨⟨pv, k1.owned hg (fun r e => (hr r e).2), own_owned k2 hg (fun r e => (hr r e).2)⟩, Nat.le_trans k4 hg.size, ownFrom_below (β := Unit) (Nat.le_refl _) (by omega) () A B row k3 hg hr⟩)
  (fun _ _ _ _ _ hs _ _ => hs)
  ⟨⟨_, HKB.out, gr_nil _ _ _ _ _⟩, Nat.le_refl _, hB0⟩
  (fun x => { tmps := #[.agg #[.slice ka ks.length kc, .slice va ks.length vc], .pointer (some ⟨w.heap.size, 0, none⟩), .slice none 0 0, .pointer (some ⟨w.heap.size + 1, 0, none⟩), .int .i64 x.1, .int .i64 x.2, .func (.func 83) #[] #[.pointer (some ⟨w.heap.size + 1 + 1, 0, none⟩)], .int .i64 x.1, .int .i64 x.2, undef, undef, undef, undef, undef, undef, undef], defers := [] }) ?assign ?body ?done ?stop
 case assign =>
  intro l x W K hK
  simp only [encP]
  gi_wp2
  exact hK
 case body =>
  rintro l pre x W ⟨⟨pv, kb, kg⟩, hW0, hB⟩ hlt
  obtain ⟨pa, pc, hpf⟩ := formR kg
  subst hpf
  have hBs := hB.size
  have kc0 : W.cell? ⟨w.heap.size + 1, 0, none⟩ = some (.slice pa pre.length pc) := (kb 0 (by simp)).1
  have kc1 : W.frozen? ⟨w.heap.size + 1, 0, none⟩ = false := (kb 0 (by simp)).2
  have hWs : w.heap.size + 1 < W.heap.size := by omega
  have ba := below_alloc W (.cells #[.int .i64 x.1, .int .i64 x.2] 92)
  have kga := own_below kg ba
  have kba := kb.below ba hWs
  have hpl : pre.length < 1048576 := by omega
  have HKG := hid kg
  have HKB2 := hid kb
  have HGA := hid kga
  have HBA := hid kba
  have HBB := hid hB
  clear kg kb kga kba HSQ HKB
  gi_wp2_with (gi_at_builtin; refine wpListIn_append_own _ rfl (.tmp 9) (.tmp 13) 36 rfl W0.heap.size 92 i0 _ 2 16 Tryz.underlying36 hi hz0 hz1 hz2 rfl (by decide) _ _ _ rfl HGA.out ⟨W.heap.size, 0, none⟩ 1 1 (pairV x) rfl rfl (cells_new _ (pairV x) 92 _ rfl) (by intro u hu; simp [pairV] at hu; rcases hu with rfl | rfl <;> rfl) (by unfold maxLen; omega) (by omega) (by simp; omega) ?_; intro v' w1 hown hgrow _; obtain ⟨na, nc, hvn⟩ := formR hown; subst hvn; have hnb : (Value.slice pa pre.length pc).ownBlock ≠ some (w.heap.size + 1) := fun e => (by have := (HGA.out.lt _ e).1; omega); have KN := HBA.out.keptG hgrow (by simp; omega) hnb; have z0 : w1.cell? ⟨w.heap.size + 1, 0, none⟩ = some (.slice pa pre.length pc) := (KN 0 (by simp)).1; have z1 : w1.frozen? ⟨w.heap.size + 1, 0, none⟩ = false := (KN 0 (by simp)).2; have HOW := hid hown; have HGR := hid hgrow; have HKN := hid KN; clear hown hgrow KN hnb)
  have fg := ((Fr.of_below (fun g => g = w.heap.size + 1 \/ (Value.slice pa pre.length pc).ownBlock = some g) ba).trans ((Fr.grown HGR.out).mono (fun g e => .inr e))).trans ((Fr.setCell w1 (w.heap.size + 1) 0 (.slice na (pre.length + 1) nc)).mono (fun g e => .inl e))
  refine ⟨keeps_fr fg (fun g o hg ho => ?_), KIn.of_fr fg (fun b hb => ?_), ⟨⟨_, HKN.out.set 0 (.slice na (pre.length + 1) nc) (by simp), ?_⟩, Nat.le_trans hW0 fg.size, ?_⟩⟩
  .rcases hg with z | z
   .subst z; exact blk_cells HKB2.out (by simp) ho
   .exact own_cellsO HKG.out z ho
  .refine ⟨by rcases hb with z | z <;> omega, fun z => ?_⟩
   rcases z with z | z
   .rcases hb with y | y <;> omega
   .have := (HKG.out.lt _ z).1
    rcases hb with y | y <;> omega
  .refine gr_push (own_fr HOW.out (Fr.setCell w1 (w.heap.size + 1) 0 _) (fun g hg e => ?_))
   have e2 : g = w.heap.size + 1 := e
   have := (HOW.out.lt g hg).1
   omega
  .refine HBB.out.trans (fg.below hBs (fun g hg => ?_))
   rcases hg with z | z
   .omega
   .have := (HKG.out.lt _ z).1; omega
 case done =>
  rintro D ys W hD rfl ⟨⟨pv, kb, kg⟩, hW0, hB⟩ hK
  obtain ⟨pa, pc, hpf⟩ := formR kg
  rw [show (ks.zip us).length = ks.length by rw [List.length_zip, hul, Nat.min_self]] at hpf
  subst hpf
  have kc0 : W.cell? ⟨w.heap.size + 1, 0, none⟩ = some (.slice pa ks.length pc) := (kb 0 (by simp)).1
  have HG : Hid (Gr pairV 92 2 w.heap.size (W.putObj D (.deferred none)) (.slice pa ks.length pc) (ks.zip us) /\ Below w.heap.size w (W.putObj D (.deferred none))) := hid (⟨own_bs (own_owned kg (grownBy_putObj' _ D (.deferred none)) (fun r e => by cases e; exact ⟨_, hK, rfl⟩)) (by omega), hB.trans (belowK_b (w := w) (Nat.le_refl _) W D _ _ (by omega) hK rfl rfl)⟩)
  clear kg kb HSQ HKB
  gi_wp2
  refine ⟨by simp, .inl ⟨_, _, rfl, run_takeDeferred hK, ?_⟩⟩
  exact ⟨.slice pa ks.length pc, by simp [results, Tryz.results45, go_sem], _, rfl, HG.out.1, HG.out.2⟩
 case stop =>
  rintro D c pre W _ _ h _
  exact h.elim
end Go.Proofs.YtblkgicbimflhaaGreat
namespace Go.Proofs.YtblkgicbimflhaaGreat
open Go.ChangeShapes Go.WideShapes Go.ChangeAt Go.RowKit
set_option linter.unusedVariables false
set_option linter.unusedSimpArgs false
set_option maxRecDepth 100000
set_option maxHeartbeats 16000000
structure OrdL (ks us : List Int) (g : Int -> Option Int) : Prop where
 srt : ks.Pairwise (· < ·)
 val : us = ks.map (fun y => (g y).getD 0)
 mem : ∀ y, y ∈ ks ↔ (g y).isSome = true
theorem OrdL.len {ks us : List Int} {g : Int -> Option Int} (h : OrdL ks us g) : us.length = ks.length := by rw [h.val, List.length_map]
theorem OrdL.nil : OrdL [] [] (fun _ => none) := ⟨List.Pairwise.nil, rfl, fun y => by simp⟩
theorem OrdL.congr {ks us : List Int} {g g' : Int -> Option Int} (h : OrdL ks us g) (e : ∀ y, g y = g' y) : OrdL ks us g' := by
 have : g = g' := funext e
 rw [<- this]; exact h
theorem OrdL.put {ks us : List Int} {g : Int -> Option Int} (h : OrdL ks us g) (x u : Int) : OrdL (putKs ks x) (putVs ks us x u) (fun y => if y = x then some u else g y) := by
 refine ⟨putKs_sorted h.srt x, ?_, fun y => ?_⟩
 .rw [h.val]
  have := putVs_map h.srt (fun y => (g y).getD 0) (fun y => (if y = x then some u else g y).getD 0) x (fun z hz => by simp only [if_neg hz])
  simp only [if_true, Option.getD_some] at this
  exact this
 .rw [putKs_mem, h.mem]
  by_cases e : y = x
  .simp [e]
  .simp [e]
theorem dropKs_filter {ks : List Int} (hs : ks.Pairwise (· < ·)) (x : Int) : dropKs ks x = ks.filter (fun y => decide (y ≠ x)) := by
 unfold dropKs
 cases hc : ks.contains x
 .rw [if_neg (by simp)]
  have hx : ¬ x ∈ ks := fun z => by rw [List.contains_iff_mem.2 z] at hc; cases hc
  exact (List.filter_eq_self.2 (fun a ha => by simp; exact fun e => hx (by rw [<- e]; exact ha))).symm
 .rw [if_pos rfl]
  have hx : x ∈ ks := by simpa using hc
  have hp := posN_at hs hx
  obtain ⟨hl, he⟩ := List.getElem?_eq_some_iff.1 hp
  obtain ⟨h1, h2⟩ := pos_split (x := x) hs
  have ed : ks.drop (posN ks x) = x :: ks.drop (posN ks x + 1) := by
   have q := (List.getElem_cons_drop hl).symm
   rw [he] at q; exact q
  have h3 : ∀ z ∈ ks.drop (posN ks x + 1), x < z := by
   have hs2 : (ks.drop (posN ks x)).Pairwise (· < ·) := hs.sublist (List.drop_sublist _ _)
   rw [ed] at hs2
   exact (List.pairwise_cons.1 hs2).1
  have e := List.take_append_drop (posN ks x) ks
  rw [ed] at e
  have ef : ks.filter (fun y => decide (y ≠ x)) = (ks.take (posN ks x) ++ x :: ks.drop (posN ks x + 1)).filter (fun y => decide (y ≠ x)) := by rw [e]
  rw [ef, List.filter_append, List.filter_cons_of_neg (by simp)]
  congr 1
  .exact (List.filter_eq_self.2 (fun a ha => by have := h1 a ha; simp; omega)).symm
  .exact (List.filter_eq_self.2 (fun a ha => by have := h3 a ha; simp; omega)).symm
theorem dropVs_map (ks : List Int) (f : Int -> Int) (x : Int) : dropVs ks (ks.map f) x = (dropKs ks x).map f := by
 unfold dropVs dropKs
 split
 .rw [List.map_append, List.map_take, List.map_drop]
 .rfl
theorem dropKs_le (ks : List Int) (x : Int) : (dropKs ks x).length <= ks.length := by
 unfold dropKs
 split
 .simp; omega
 .exact Nat.le_refl _
theorem OrdL.drop {ks us : List Int} {g : Int -> Option Int} (h : OrdL ks us g) (x : Int) : OrdL (dropKs ks x) (dropVs ks us x) (fun y => if y = x then none else g y) := by
 have hm : ∀ y, y ∈ dropKs ks x ↔ y ∈ ks /\ y ≠ x := fun y => by rw [dropKs_filter h.srt, List.mem_filter]; simp
 refine ⟨?_, ?_, fun y => ?_⟩
 .rw [dropKs_filter h.srt]; exact h.srt.sublist List.filter_sublist
 .rw [h.val, dropVs_map]
  exact List.map_congr_left (fun y hy => by simp only [if_neg ((hm y).1 hy).2])
 .rw [hm, h.mem]
  by_cases e : y = x
  .simp [e]
  .simp [e]
structure OLM (B b0 lb : Nat) (W : World) (ks us : List Int) (kv vv : Value) : Prop where
 bk : Blk W lb [kv, vv]
 kr : W.ownsRow b0 3 1 kv ks.length (ks.map (Value.int .i64))
 vr : W.ownsRow b0 3 1 vv ks.length (us.map (Value.int .i64))
 ds : ∀ g, kv.ownBlock = some g -> vv.ownBlock ≠ some g
theorem OLM.fr {B b0 lb : Nat} {S : Nat -> Prop} {W W' : World} {ks us : List Int} {kv vv : Value} (h : OLM B b0 lb W ks us kv vv) (hf : Fr S W W') (hl : lb < W.heap.size) (hS : ∀ g, S g -> g ≠ lb /\ kv.ownBlock ≠ some g /\ vv.ownBlock ≠ some g) : OLM B b0 lb W' ks us kv vv :=
 ⟨h.bk.fr hf hl (fun z => (hS _ z).1 rfl), own_fr h.kr hf (fun g hg z => (hS g z).2.1 hg), own_fr h.vr hf (fun g hg z => (hS g z).2.2 hg), h.ds⟩
theorem OLM.owned {B b0 lb : Nat} {W W' : World} {ks us : List Int} {kv vv : Value} {row : Option Nat} (h : OLM B b0 lb W ks us kv vv) (hg : W.grownBy W' row) (hr : ∀ r, row = some r -> ∃ o : Obj, W.heap[r]? = some o /\ o.isCells = false) : OLM B b0 lb W' ks us kv vv := ⟨h.bk.owned hg hr, own_owned h.kr hg hr, own_owned h.vr hg hr, h.ds⟩
theorem OLM.after {B b0 lb : Nat} {W W' : World} {ks' us' : List Int} {kv vv kv' vv' : Value} (R : PutR b0 lb 0 3 1 W [kv, vv] kv vv ks' (us'.map (Value.int .i64)) W' kv' vv') : OLM B b0 lb W' ks' us' kv' vv' := ⟨R.bk, R.kr, R.vr, R.ds⟩
end Go.Proofs.YtblkgicbimflhaaGreat
namespace Go.Proofs.YtblkgicbimflhaaGreat
open Go.ChangeShapes Go.WideShapes Go.ChangeAt Go.RowKit
set_option linter.unusedVariables false
set_option linter.unusedSimpArgs false
set_option maxRecDepth 100000
set_option maxHeartbeats 16000000
open Go.Shelf
open Go.ChangeMaps (setBlock)
attribute [local go_sem] Oper.semAt_some
def sv1 (T : Int -> List Ver) (bg : Int) (y : Int) : Option Int := if (verAt (T y) bg).2 then some (verAt (T y) bg).1 else none
def gP (T : Int -> List Ver) (bg : Int) (pre : List Int) (y : Int) : Option Int := if y ∈ pre then sv1 T bg y else none
def svO (v : Vsn) : Option Int := if v.2 then some v.1 else none
def gD (T : Int -> List Ver) (bg : Int) (M : List (Spt × Vsn)) (n : Nat) (D : List Spt) (y : Int) : Option Int := if ((n : Int), y) ∈ D then (match mget M ((n : Int), y) with
 | some v => svO v
 | none => none) else sv1 T bg y
theorem gD_nil (T : Int -> List Ver) (bg : Int) (M : List (Spt × Vsn)) (n : Nat) (y : Int) : gD T bg M n [] y = sv1 T bg y := by
 unfold gD
 exact if_neg (List.not_mem_nil)
theorem gD_other (T : Int -> List Ver) (bg : Int) (M : List (Spt × Vsn)) (n : Nat) (D : List Spt) (a y z : Int) (h : a ≠ (n : Int)) : gD T bg M n ((a, y) :: D) z = gD T bg M n D z := by
 have : ((n : Int), z) ∈ (a, y) :: D ↔ ((n : Int), z) ∈ D := ⟨fun q => by
  rcases List.mem_cons.1 q with e | e
  .injection e with e1 _; exact absurd e1.symm h
  .exact e, fun q => List.mem_cons_of_mem _ q⟩
 unfold gD
 by_cases e : ((n : Int), z) ∈ D
 .rw [if_pos e, if_pos (this.2 e)]
 .rw [if_neg e, if_neg (fun q => e (this.1 q))]
theorem gD_same (T : Int -> List Ver) (bg : Int) (M : List (Spt × Vsn)) (n : Nat) (D : List Spt) (y z : Int) (v : Vsn) (h : mget M ((n : Int), y) = some v) : gD T bg M n (((n : Int), y) :: D) z = if z = y then svO v else gD T bg M n D z := by
 unfold gD
 by_cases e : z = y
 .subst e
  rw [if_pos rfl, if_pos List.mem_cons_self, h]
 .rw [if_neg e]
  by_cases e2 : ((n : Int), z) ∈ D
  .rw [if_pos e2, if_pos (List.mem_cons_of_mem _ e2)]
  .rw [if_neg e2, if_neg (fun q => by
    rcases List.mem_cons.1 q with e1 | e1
    .injection e1 with _ e3; exact e e3
    .exact e2 e1)]
def STI (b0 lb : Nat) (w : World) (tg : Nat) (T : Int -> List Ver) (bg : Int) (pre : List Int) (W : World) : Prop := (∃ ks us kv vv, OLM 0 b0 lb W ks us kv vv /\ OrdL ks us (gP T bg pre) /\ ks.length <= pre.length) /\ (Blk W w.heap.size [.pointer (some ⟨tg, 0, none⟩)] /\ Blk W (w.heap.size + 1) [.slice none 0 0, .slice none 0 0] /\ b0 <= W.heap.size) /\ Below w.heap.size w W
def stAx (w : World) (sb g n : Nat) (f : Int -> Value × Value) (ks : List Int) (x : { y : Int // y ∈ ks }) (a' : Act) (W : World) : Prop := ∃ Bx, w.heap.size + 1 + 1 + 1 < Bx /\ Bx < W.heap.size /\ Blk W Bx [(f x.1).1, (f x.1).2] /\ a' = { tmps := #[.pointer (some ⟨sb, 0, none⟩), .pointer (some ⟨g, 0, none⟩), .int .i64 (n : Int), undef, .pointer (some ⟨w.heap.size, 0, none⟩), undef, .pointer (some ⟨w.heap.size + 1, 0, none⟩), .pointer (some ⟨w.heap.size + 1 + 1, 0, none⟩), .int .i64 x.1, .pointer (some ⟨Bx, 0, none⟩), undef, undef, undef, .pointer (some ⟨sb, 0, none⟩), .int .i64 (n : Int), .pointer (some ⟨sb, 0, none⟩), .pointer (some ⟨sb, 1, none⟩), .pointer (some ⟨sb, 1 + n * 2, none⟩), .func (.func 84) #[] #[.pointer (some ⟨w.heap.size + 1 + 1 + 1, 0, none⟩)], .int .i64 x.1, .agg #[(f x.1).1, (f x.1).2], undef, undef, undef, undef, undef, undef, undef, undef, undef, undef, undef, undef, undef, undef, undef, undef, undef, undef, undef, undef, undef, undef, undef, undef, undef, undef, undef, undef, undef, undef, undef, undef, undef, undef, undef, undef, undef, undef, undef], defers := [] }
structure ST2 (b0 lb : Nat) (w : World) (T : Int -> List Ver) (bg : Int) (M : List (Spt × Vsn)) (n mb r D K : Nat) (wr : World) (Dn : List Spt) (ks us : List Int) (kv vv : Value) : Prop where
 it : IT wr r mb M Dn
 ol : OLM 0 b0 lb wr ks us kv vv
 od : OrdL ks us (gD T bg M n Dn)
 kl : ks.length <= K + Dn.length
 nd : Dn.Nodup
 hd : ∀ k ∈ Dn, ∃ v, (k, v) ∈ M
 rb : Blk wr (w.heap.size + 1) [.slice none 0 0, .slice none 0 0]
 be : Below w.heap.size w wr
 df : wr.heap[D]? = some (.deferred (some []))
 b0l : b0 <= wr.heap.size
theorem df_blk {W : World} {D b : Nat} {ds : Option (List Deferred)} {cs : List Value} (h : W.heap[D]? = some (.deferred ds)) (hb : Blk W b cs) (hl : 0 < cs.length) : b ≠ D := fun e => by
 subst e
 have := blk_cells hb hl h
 cases this
theorem df_own {W : World} {D B e K n : Nat} {ds : Option (List Deferred)} {v : Value} {xs : List Value} (h : W.heap[D]? = some (.deferred ds)) (ho : W.ownsRow B e K v n xs) : v.ownBlock ≠ some D := fun e => by
 have := own_cellsO ho e h
 cases this
theorem ST2.step {b0 lb : Nat} {w : World} {T : Int -> List Ver} {bg : Int} {M : List (Spt × Vsn)} {n mb r D K : Nat} {wr w1 w3 w4 : World} {Dn : List Spt} {ks us ks' us' : List Int} {kv vv kv' vv' : Value} {k : Spt} {v : Vsn} {S : Nat -> Prop} (h : ST2 b0 lb w T bg M n mb r D K wr Dn ks us kv vv) (hlb : lb = w.heap.size + 1 + 1) (hb0 : b0 = w.heap.size + 1 + 1 + 1 + 1) (hm : (k, v) ∈ M) (hnD : ¬ k ∈ Dn) (hit : IT w1 r mb M (k :: Dn)) (hf1 : Fr (fun g => g = r) wr w1) (hlt : w1.rangeLeft mb r < wr.rangeLeft mb r) (hr : w.heap.size <= r) (hbp : Below w1.heap.size w1 w3) (hS : ∀ g, S g -> g = lb \/ kv.ownBlock = some g \/ vv.ownBlock = some g) (hf : Fr S w3 w4) (ho : OLM 0 b0 lb w4 ks' us' kv' vv') (hg : OrdL ks' us' (gD T bg M n (k :: Dn))) (hk : ks'.length <= ks.length + 1) :
 ST2 b0 lb w T bg M n mb r D K w4 (k :: Dn) ks' us' kv' vv' /\ w4.rangeLeft mb r < wr.rangeLeft mb r := by
 have q1 := it_blk h.it h.ol.bk (by simp)
 have q2 := it_own h.it h.ol.kr
 have q3 := it_own h.it h.ol.vr
 have q4 := it_blk h.it h.rb (by simp)
 have d1 := df_blk h.df h.ol.bk (by simp)
 have d2 := df_own h.df h.ol.kr
 have d3 := df_own h.df h.ol.vr
 have dr : D ≠ r := fun e => by
  obtain ⟨es, cl, seen, _, _, _, _, _, h6, _⟩ := h.it
  have := h.df
  rw [e, h6] at this
  cases this
 have hDl : D < wr.heap.size := (Array.getElem?_eq_some_iff.1 h.df).1
 have hs1 := hf1.size
 have hs3 := hbp.size
 have hs4 := hf.size
 have hbl := h.b0l
 have kk : ∀ g, kv.ownBlock = some g -> b0 <= g := fun g hg => (h.ol.kr.lt g hg).1
 have kv2 : ∀ g, vv.ownBlock = some g -> b0 <= g := fun g hg => (h.ol.vr.lt g hg).1
 have i3 := hit.fr (Fr.of_below (fun _ => False) hbp) (fun z => z) (fun z => z)
 have i4 := i3.1.fr hf (fun z => by
  rcases hS _ z with y | y | y
  .exact q1.2 y.symm
  .exact q2.2 y
  .exact q3.2 y) (fun z => by
  rcases hS _ z with y | y | y
  .exact q1.1 y.symm
  .exact q2.1 y
  .exact q3.1 y)
 refine ⟨⟨i4.1, ho, hg, by have := h.kl; rw [List.length_cons]; omega, List.nodup_cons.2 ⟨hnD, h.nd⟩, fun a ha => ?_, ?_, ?_, ?_, by omega⟩, by rw [i4.2, i3.2]; exact hlt⟩
 .rcases List.mem_cons.1 ha with z | z
  .rw [z]; exact ⟨v, hm⟩
  .exact h.hd a z
 .refine ((h.rb.fr hf1 (by omega) q4.1).below hbp (by omega)).fr hf (by omega) (fun z => ?_)
  rcases hS _ z with y | y | y
  .omega
  .have := kk _ y; omega
  .have := kv2 _ y; omega
 .have b1 : Below w.heap.size w w1 := h.be.trans (hf1.below h.be.size (fun g e => by rw [e]; exact hr))
  have b3 := b1.trans (hbp.mono b1.size)
  refine b3.trans (hf.below b3.size (fun g z => ?_))
  rcases hS _ z with y | y | y
  .omega
  .have := kk _ y; omega
  .have := kv2 _ y; omega
 .rw [hf.block D (by omega) (fun z => by
   rcases hS _ z with y | y | y
   .exact d1 y.symm
   .exact d2 y
   .exact d3 y), hbp.block D (by omega), hf1.block D hDl dr]
  exact h.df
theorem seenTable_any (B sb n : Nat) (w : World) (L : LIx -> Value) (c : Led) (ck : Int) (op : Nat -> Option Addr) (t : TG) (x : Txn) (hL : LedM B w L c) (hLb : LedB c) (hS : Blk w sb (sesC ck L op)) (hsb : sb < w.heap.size) (hT : TrM B w t x) (hn : n < 32) (hKb : (c.K n).length + t.M.length < 1048576) :
 Calls Tryz.prog 46 #[.pointer (some ⟨sb, 0, none⟩), .pointer (some ⟨t.g, 0, none⟩), .int .i64 (n : Int)] w fun e w' => ∃ kv vv ks us, e = .returned (.agg #[kv, vv]) /\ w'.ownsRow w.heap.size 3 1 kv ks.length (ks.map (Value.int .i64)) /\ w'.ownsRow w.heap.size 3 1 vv ks.length (us.map (Value.int .i64)) /\ OrdL ks us (fun y => svO ((mget t.M ((n : Int), y)).getD (verAt (c.T n y) x.bg))) /\ ks.length < 1048576 /\ Below w.heap.size w w' := by
 obtain ⟨W1, hW1⟩ : ∃ z, z = ((w.alloc (.cells #[.pointer (some ⟨t.g, 0, none⟩)] 77)).alloc (.cells #[.slice none 0 0, .slice none 0 0] 125)).alloc (.cells #[.slice none 0 0, .slice none 0 0] 125) := ⟨_, rfl⟩
 have K1a : Blk W1 w.heap.size [.pointer (some ⟨t.g, 0, none⟩)] := by rw [hW1]; exact blkA w [.pointer (some ⟨t.g, 0, none⟩)] [.slice none 0 0, .slice none 0 0] [.slice none 0 0, .slice none 0 0] _ _ _
 have K1b : Blk W1 (w.heap.size + 1) [.slice none 0 0, .slice none 0 0] := by rw [hW1]; exact blkB w [.pointer (some ⟨t.g, 0, none⟩)] [.slice none 0 0, .slice none 0 0] [.slice none 0 0, .slice none 0 0] _ _ _
 have K1c : Blk W1 (w.heap.size + 1 + 1) [.slice none 0 0, .slice none 0 0] := by rw [hW1]; exact blkC w [.pointer (some ⟨t.g, 0, none⟩)] [.slice none 0 0, .slice none 0 0] [.slice none 0 0, .slice none 0 0] _ _ _
 have hz1 : W1.heap.size = w.heap.size + 1 + 1 + 1 := by rw [hW1]; simp
 have b01 : Below w.heap.size w W1 := by rw [hW1]; exact (((Below.refl _ w).alloc (Nat.le_refl _) _).alloc (by simp) _).alloc (by simp; omega) _
 obtain ⟨W0, hW0⟩ : ∃ z, z = W1.alloc (.cells #[.pointer (some ⟨sb, 1 + n * 2, none⟩)] 178) := ⟨_, rfl⟩
 have ba : Below W1.heap.size W1 W0 := by rw [hW0]; exact below_alloc _ _
 have hz0 : W0.heap.size = w.heap.size + 1 + 1 + 1 + 1 := by rw [hW0]; simp [hz1]
 have hB0 : Below w.heap.size w W0 := b01.trans (ba.mono (by omega))
 have KA := K1a.below ba (by omega)
 have KB := K1b.below ba (by omega)
 have KC := K1c.below ba (by omega)
 have KD : Blk W0 (w.heap.size + 1 + 1 + 1) [.pointer (some ⟨sb, 1 + n * 2, none⟩)] := by
  have := blk_new W1 [.pointer (some ⟨sb, 1 + n * 2, none⟩)] 178
  rw [hz1] at this
  rw [hW0]; exact this
 have c0 := (ses_cell (hS.below hB0 hsb) (j := 1 + n * 2) (by omega)).1
 have c1 := (ses_cell (hS.below hB0 hsb) (j := 1 + n * 2 + 1) (by omega)).1
 rw [sesAt_tk _ _ _ hn] at c0
 rw [sesAt_tv _ _ _ hn] at c1
 have HSQ := hid (iv_stops Fence.wide 2 trivial rfl (by omega) (w.heap.size + 1 + 1 + 1) sb (1 + n * 2) B (fun b => b < w.heap.size \/ b = w.heap.size + 1 + 1 + 1) (c.K n) (fun y => (L (.ek n y), L (.ev n y))) (fun y => hL.ff n y) (L (.tk n)) (L (.tv n)) (.inr rfl) (.inl hsb) (fun g hg => .inl (hL.rm.lt ⟨_, hg⟩).2) (fun g hg => .inl (hL.rm.lt ⟨_, hg⟩).2) (Nat.le_of_lt (hLb.kb n)) W0 (fun b hb => by rcases hb with z | z <;> omega) (KD 0 (by simp)).1 c0 c1 ((hL.below hB0).rm.rows (.tk n)) ((hL.below hB0).rm.rows (.tv n)))
 have HKA := hid KA
 have HKB := hid KB
 have HKC := hid KC
 have HT := hid hT
 have HL := hid hL
 have HLB := hid hLb
 have hni : (n : Int) < 32 := by omega
 clear KA KB KC KD K1a K1b K1c c0 c1 hT hL hLb hS ba b01
 refine (callsIn_wide (n := 3)).1 ?_
 refine callsIn_of_wp_marks Tryz.func46 rfl trivial ?_ rfl
 simp only [Tryz.ntmps46, List.size_toArray, List.length_cons, List.length_nil, Nat.reduceAdd, Nat.reduceSub, Array.replicate_succ, Array.replicate_zero, List.push_toArray, List.append_toArray, List.nil_append, List.cons_append]
 have HW1 := hid hW1
 have HW0 := hid hW0
 have HZ1 := hid hz1
 have HZ0 := hid hz0
 clear hW1 hW0 hz1 hz0
 gi_wp2_with (refine ⟨trivial, ?_⟩; gi_at_call 67; refine (all_in_iv Fence.wide _ trivial rfl _ _ _).mono ?_; rintro e w' ⟨rfl, rfl⟩)
 rw [<- HW1.out, <- HW0.out]
 clear HW1 HW0
 refine wpIn_rangeFunc_ownH rfl (by omega) (gf := 84) (lb := #[.pointer (some ⟨w.heap.size + 1 + 1 + 1, 0, none⟩)]) rfl trivial (enters_of Tryz.func84 (by kernel_rfl) rfl)
  HSQ.out KIn.trans (fun W l o o' hl _ _ _ => KIn.put (fun z => by have := HZ0.out; rcases z with z | z <;> omega)) (Below.refl _ _) (fun _ => rfl)
  (fun pre W => STI W0.heap.size (w.heap.size + 1 + 1) w t.g (c.T n) x.bg (pre.map Subtype.val) W)
  (fun _ _ _ => False)
  (fun s A B row hs hg hr => by
   obtain ⟨⟨ks, us, kv, vv, k1, k2, k3⟩, ⟨k4, k5, k6⟩, k7⟩ := hs
   exact ⟨⟨ks, us, kv, vv, k1.owned hg (fun r e => (hr r e).2), k2, k3⟩, ⟨k4.owned hg (fun r e => (hr r e).2), k5.owned hg (fun r e => (hr r e).2), Nat.le_trans k6 hg.size⟩, ownFrom_below (β := Unit) (Nat.le_refl _) (by have := HZ0.out; omega) () A B row k7 hg hr⟩)
  (fun _ _ _ _ _ hs _ _ => hs)
  ⟨⟨[], [], _, _, ⟨HKC.out, World.ownsRow_nil _ _ _ _, World.ownsRow_nil _ _ _ _, fun g hg => (nil_own g hg).elim⟩, OrdL.nil.congr (fun y => by simp [gP]), Nat.zero_le _⟩, ⟨HKA.out, HKB.out, Nat.le_refl _⟩, hB0⟩
  (stAx w sb t.g n (fun y => (L (.ek n y), L (.ev n y))) (c.K n))
  (fun y a' => fun s A B row hs hg hr => by
   obtain ⟨Bx, k1, k2, k3, k4⟩ := hs
   exact ⟨Bx, k1, Nat.lt_of_lt_of_le k2 hg.size, k3.owned hg (fun r e => (hr r e).2), k4⟩) ?assign ?body ?done ?stop
 case assign =>
  rintro l pre y W K ⟨⟨ks, us, kv, vv, k1, k2, k3⟩, ⟨k4, k5, k6⟩, k7⟩ hK
  have hz0 := HZ0.out
  obtain ⟨⟨a1, n1, q1, e1⟩, a2, n2, q2, e2⟩ := HL.out.ff n y.1
  have ba := below_alloc W (.cells #[L (.ek n y.1), L (.ev n y.1)] 155)
  have fa : Fr (fun _ => False) W (W.alloc (.cells #[L (.ek n y.1), L (.ev n y.1)] 155)) := Fr.of_below _ ba
  have kn := blk_new W [L (.ek n y.1), L (.ev n y.1)] 155
  have HH := hid (hK ({ tmps := #[.pointer (some ⟨sb, 0, none⟩), .pointer (some ⟨t.g, 0, none⟩), .int .i64 (n : Int), undef, .pointer (some ⟨w.heap.size, 0, none⟩), undef, .pointer (some ⟨w.heap.size + 1, 0, none⟩), .pointer (some ⟨w.heap.size + 1 + 1, 0, none⟩), .int .i64 y.1, .pointer (some ⟨W.heap.size, 0, none⟩), undef, undef, undef, .pointer (some ⟨sb, 0, none⟩), .int .i64 (n : Int), .pointer (some ⟨sb, 0, none⟩), .pointer (some ⟨sb, 1, none⟩), .pointer (some ⟨sb, 1 + n * 2, none⟩), .func (.func 84) #[] #[.pointer (some ⟨w.heap.size + 1 + 1 + 1, 0, none⟩)], .int .i64 y.1, .agg #[L (.ek n y.1), L (.ev n y.1)], undef, undef, undef, undef, undef, undef, undef, undef, undef, undef, undef, undef, undef, undef, undef, undef, undef, undef, undef, undef, undef, undef, undef, undef, undef, undef, undef, undef, undef, undef, undef, undef, undef, undef, undef, undef, undef, undef, undef], defers := [] }) (W.alloc (.cells #[L (.ek n y.1), L (.ev n y.1)] 155)) ((KeepsOthers.alloc _ _).from _) (KIn.of_fr fa (fun b hb => ⟨by rcases hb with z | z <;> omega, fun z => z⟩)) ⟨⟨ks, us, kv, vv, k1.fr fa (by omega) (fun g z => z.elim), k2, k3⟩, ⟨k4.below ba (by omega), k5.below ba (by omega), by simp; omega⟩, k7.alloc k7.size _⟩ ⟨W.heap.size, by omega, by simp, kn, rfl⟩)
  clear hK k1 k2 k3 k4 k5 k6 k7 fa ba kn
  simp only [encV]
  rw [e1, e2] at HH ⊢
  clear e1 e2
  gi_wp2
  exact HH.out
 case body =>
  rintro l pre y a' W hl ⟨r, hr⟩ ⟨⟨ks, us, kv, vv, k1, k2, k3⟩, ⟨k4, k5, k6⟩, k7⟩ ⟨Bx, m1, m2, m3, rfl⟩ hlt
  have hz0 := HZ0.out
  simp only at m3
  have hT1 := HT.out.below k7
  have hL1 := HL.out.below k7
  have g0 := hT1.c0
  have n0 : W.cell? ⟨w.heap.size, 0, none⟩ = some (.pointer (some ⟨t.g, 0, none⟩)) := (k4 0 (by simp)).1
  obtain ⟨⟨a1, n1, q1, e1⟩, a2, n2, q2, e2⟩ := hL1.ff n y.1
  have hml : ((c.T n y.1).map (·.1)).length = (c.T n y.1).length := List.length_map _
  have HUP := hid (upTo_any B Bx 0 (L (.ek n y.1)) (L (.ev n y.1)) (c.T n y.1) x.bg W m2 (m3 0 (by simp)).1 (m3 1 (by simp)).1 (hL1.rm.rows (.ek n y.1)) (hL1.rm.rows (.ev n y.1)) (hL1.tst n y.1) (Nat.le_of_lt (HLB.out.tb n y.1)))
  simp only
  rw [e1, e2]
  have HK1 := hid k1
  have HK2 := hid k2
  have HK4 := hid k4
  have HK5 := hid k5
  have HK7 := hid k7
  clear hT1 hL1 k1 k2 k4 k5 k7 m3 hml HSQ HKA HKB HKC hr
  obtain ⟨va, hva⟩ : ∃ z, z = verAt (c.T n y.1) x.bg := ⟨_, rfl⟩
  rw [<- hva] at HUP
  have HVA := hid hva
  clear hva
  obtain ⟨v, bo⟩ := va
  simp only at HUP
  have hsv : sv1 (c.T n) x.bg y.1 = if bo then some v else none := by unfold sv1; rw [<- HVA.out]
  have HSV := hid hsv
  clear hsv
  cases bo with
  | false =>
    gi_wp2_with (refine ⟨trivial, ?_⟩; gi_at_call 65; refine (CallsIn.inRound l (callsIn_wide.2 HUP.out)).mono ?_; rintro e w1 ⟨rfl, hb1⟩)
    have bz : Below W.heap.size W (w1.alloc (.cells #[.int .i64 v, .bool false] 121)) := hb1.alloc hb1.size _
    have fz : Fr (fun _ => False) W (w1.alloc (.cells #[.int .i64 v, .bool false] 121)) := Fr.of_below _ bz
    refine ⟨keeps_fr fz (fun g o hg ho => hg.elim), KIn.of_fr fz (fun b hb => ⟨by rcases hb with z | z <;> omega, fun z => z⟩), ⟨ks, us, kv, vv, HK1.out.fr fz (by omega) (fun g z => z.elim), HK2.out.congr (fun z => ?_), by simp at k3 ⊢; omega⟩, ⟨HK4.out.below bz (by omega), HK5.out.below bz (by omega), Nat.le_trans k6 bz.size⟩, HK7.out.trans (bz.mono HK7.out.size)⟩
    unfold gP
    rw [List.map_append]
    by_cases e : z ∈ pre.map Subtype.val
    .rw [if_pos e, if_pos (List.mem_append_left _ e)]
    .rw [if_neg e]
     by_cases e2 : z = y.1
     .subst e2; rw [if_pos (by simp), HSV.out]; rfl
     .rw [if_neg (by simp at e ⊢; exact ⟨e, e2⟩)]
  | true =>
    have HPT := hid (fun (W2 : World) (b2 : Below W.heap.size W W2) => put_int W0.heap.size (w.heap.size + 1 + 1) 0 [kv, vv] kv vv ks us y.1 v W2 (HK1.out.bk.below b2 (by omega)) (by have := b2.size; omega) rfl rfl (own_below HK1.out.kr b2) (own_below HK1.out.vr b2) HK2.out.srt (by simp at k3; omega) (fun e => by have := (HK1.out.kr.lt _ e).1; omega) (fun e => by have := (HK1.out.vr.lt _ e).1; omega) HK1.out.ds (by have := b2.size; omega))
    gi_wp2_with (first
     | (refine ⟨trivial, ?_⟩; gi_at_call 65; refine (CallsIn.inRound l (callsIn_wide.2 HUP.out)).mono ?_; rintro e w1 ⟨rfl, hb1⟩; have bz : Below W.heap.size W (w1.alloc (.cells #[.int .i64 v, .bool true] 121)) := hb1.alloc hb1.size _)
     | (refine ⟨trivial, ?_⟩; gi_at_call 68; refine (CallsIn.inRound l (callsIn_wide.2 (HPT.out _ bz))).mono ?_; rintro e w3 ⟨kv', vv', rr, rfl, R⟩))
    have fz := (Fr.of_below (fun g => g = w.heap.size + 1 + 1 \/ kv.ownBlock = some g \/ vv.ownBlock = some g) bz).trans R.fr
    have hk0 : ∀ g, kv.ownBlock = some g -> W0.heap.size <= g := fun g hg => (HK1.out.kr.lt _ hg).1
    have hv0 : ∀ g, vv.ownBlock = some g -> W0.heap.size <= g := fun g hg => (HK1.out.vr.lt _ hg).1
    refine ⟨keeps_fr fz (fun g o hg ho => ?_), KIn.of_fr fz (fun b hb => ⟨by rcases hb with z | z <;> omega, fun z => ?_⟩), ⟨_, _, kv', vv', OLM.after R, (HK2.out.put y.1 v).congr (fun z => ?_), ?_⟩, ⟨HK4.out.fr fz (by omega) (fun z => ?_), HK5.out.fr fz (by omega) (fun z => ?_), Nat.le_trans k6 fz.size⟩, HK7.out.trans (fz.below HK7.out.size (fun g hg => ?_))⟩
    .rcases hg with z | z | z
     .subst z; exact blk_cells HK1.out.bk (by simp) ho
     .exact own_cellsO HK1.out.kr z ho
     .exact own_cellsO HK1.out.vr z ho
    .rcases z with z | z | z
     .rcases hb with q | q <;> omega
     .have := hk0 _ z; rcases hb with q | q <;> omega
     .have := hv0 _ z; rcases hb with q | q <;> omega
    .unfold gP
     rw [List.map_append]
     by_cases e2 : z = y.1
     .subst e2; rw [if_pos rfl, if_pos (by simp), HSV.out]; rfl
     .rw [if_neg e2]
      by_cases e : z ∈ pre.map Subtype.val
      .rw [if_pos e, if_pos (List.mem_append_left _ e)]
      .rw [if_neg e, if_neg (by simp at e ⊢; exact ⟨e, e2⟩)]
    .have := putKs_le ks y.1; simp at k3 ⊢; omega
    .rcases z with z | z | z
     .omega
     .have := hk0 _ z; omega
     .have := hv0 _ z; omega
    .rcases z with z | z | z
     .omega
     .have := hk0 _ z; omega
     .have := hv0 _ z; omega
    .rcases hg with z | z | z
     .omega
     .have := hk0 _ z; omega
     .have := hv0 _ z; omega
 case done =>
  rintro D ys W hD rfl ⟨⟨ks, us, kv, vv, k1, k2, k3⟩, ⟨k4, k5, k6⟩, k7⟩ hK
  rw [List.attach_map_subtype_val] at k2 k3
  have hz0 := HZ0.out
  have hT1 := HT.out.below k7
  have c34 := hT1.c34
  obtain ⟨o, hrun, hit⟩ := run_rangeM W t.mb t.M hT1.mp
  have hmb := hT1.mp.lt
  have n0 : W.cell? ⟨w.heap.size, 0, none⟩ = some (.pointer (some ⟨t.g, 0, none⟩)) := (k4 0 (by simp)).1
  have hDl : D < W.heap.size := (Array.getElem?_eq_some_iff.1 hK).1
  have ba := below_alloc W o
  have HST : Hid (ST2 W0.heap.size (w.heap.size + 1 + 1) w (c.T n) x.bg t.M n t.mb W.heap.size D (c.K n).length (W.alloc o) [] ks us kv vv) := hid (⟨hit, k1.fr (Fr.of_below (fun _ => False) ba) (by omega) (fun g z => z.elim), k2.congr (fun y => by
   rw [gD_nil]
   unfold gP
   by_cases e : y ∈ c.K n
   .rw [if_pos e]
   .rw [if_neg e]
    have : c.T n y = [] := by
     cases hq : c.T n y with
     | nil => rfl
     | cons z r => exact absurd ((HL.out.mem n y).2 (by rw [hq]; simp)) e
    unfold sv1
    rw [this]
    rfl), by simp; omega, List.nodup_nil, fun k h => absurd h (by simp), k5.below ba (by omega), k7.alloc k7.size _, by rw [Below.heap_alloc W o D hDl]; exact hK, by simp; omega⟩)
  have hWW : w.heap.size <= W.heap.size := k7.size
  have hW0l : W0.heap.size <= W.heap.size := k6
  clear k1 k2 k3 k4 k5 k6 k7 hT1 hit HSQ HKA HKB HKC ba
  gi_wp2
  gi_loopw [] (fun wr => ∃ Dn ks us kv vv, Hid (ST2 W0.heap.size (w.heap.size + 1 + 1) w (c.T n) x.bg t.M n t.mb W.heap.size D (c.K n).length wr Dn ks us kv vv)) (fun wr => wr.rangeLeft t.mb W.heap.size)
  case atStart => exact ⟨[], ks, us, kv, vv, HST⟩
  case round =>
   clear HST hrun hK n0 c34
   obtain ⟨Dn, ks, us, kv, vv, HST⟩ := hrel
   have hst := HST.out
   have hrl := hst.it.lt
   rcases hst.it.next 0 with ⟨hall, hrun⟩ | ⟨m, w1, hm, hnD, hrun, hit1, hf1, hz1, hlt, hen⟩
   .have HFO : Hid (OrdL ks us (fun y => svO ((mget t.M ((n : Int), y)).getD (verAt (c.T n y) x.bg)))) := hid (hst.od.congr (fun y => by
     unfold gD
     by_cases e : ((n : Int), y) ∈ Dn
     .rw [if_pos e]
      obtain ⟨v, hv⟩ := hst.hd _ e
      rw [mget_mem hst.it.mp.nodup hv]
      rfl
     .rw [if_neg e]
      have : mget t.M ((n : Int), y) = none := by
       cases hq : mget t.M ((n : Int), y) with
       | none => rfl
       | some z => exact absurd (hall _ (mget_some hq)) e
      rw [this]
      rfl))
    have hlen : ks.length < 1048576 := by
     have h1 := hst.kl
     have h2 := sub_len (D := Dn) (E := t.M.map Prod.fst) hst.nd (fun d hd => by obtain ⟨v, hv⟩ := hst.hd d hd; exact List.mem_map_of_mem hv)
     rw [List.length_map] at h2
     omega
    obtain ⟨ka, kc, hkf⟩ := formR hst.ol.kr
    obtain ⟨va, vc, hvf⟩ := formR hst.ol.vr
    subst hkf hvf
    obtain ⟨l0, l1⟩ := kc1 hst.ol.bk
    obtain ⟨⟨r0, f0⟩, ⟨r1, f1⟩⟩ := kb1 hst.rb
    obtain ⟨Wf, hWf⟩ : ∃ z, z = (wr.setCell ⟨w.heap.size + 1, 0, none⟩ (.slice ka ks.length kc)).setCell ⟨w.heap.size + 1, 1, none⟩ (.slice va ks.length vc) := ⟨_, rfl⟩
    have ff : Fr (fun g => g = w.heap.size + 1) wr Wf := by rw [hWf]; exact (Fr.setCell _ _ _ _).trans (Fr.setCell _ _ _ _)
    have kf : Blk Wf (w.heap.size + 1) [.slice ka ks.length kc, .slice va ks.length vc] := by rw [hWf]; exact (hst.rb.set 0 (.slice ka ks.length kc) (by simp)).set 1 (.slice va ks.length vc) (by simp)
    have hDr : D ≠ w.heap.size + 1 := fun e => df_blk hst.df hst.rb (by simp) e.symm
    have hDl : D < wr.heap.size := (Array.getElem?_eq_some_iff.1 hst.df).1
    have df : Wf.heap[D]? = some (.deferred (some [])) := (ff.block D hDl hDr).trans hst.df
    have nk : ∀ g, (Value.slice ka ks.length kc).ownBlock = some g -> ¬ g = w.heap.size + 1 := fun g hg e => by have := (hst.ol.kr.lt g hg).1; omega
    have nv : ∀ g, (Value.slice va ks.length vc).ownBlock = some g -> ¬ g = w.heap.size + 1 := fun g hg e => by have := (hst.ol.vr.lt g hg).1; omega
    have HR : Hid ((Wf.putObj D (.deferred none)).ownsRow w.heap.size 3 1 (.slice ka ks.length kc) ks.length (ks.map (Value.int .i64)) /\ (Wf.putObj D (.deferred none)).ownsRow w.heap.size 3 1 (.slice va ks.length vc) ks.length (us.map (Value.int .i64)) /\ Below w.heap.size w (Wf.putObj D (.deferred none)) /\ Blk (Wf.putObj D (.deferred none)) (w.heap.size + 1) [.slice ka ks.length kc, .slice va ks.length vc]) := hid (by
     have bf : Below w.heap.size w Wf := hst.be.trans (ff.below hst.be.size (fun g e => by rw [e]; omega))
     have go := grownBy_putObj' Wf D (.deferred none)
     have gr : ∀ r, some D = some r -> ∃ o : Obj, Wf.heap[r]? = some o /\ o.isCells = false := fun r e => by cases e; exact ⟨_, df, rfl⟩
     exact ⟨own_bs (own_owned (own_fr hst.ol.kr ff nk) go gr) (by omega), own_bs (own_owned (own_fr hst.ol.vr ff nv) go gr) (by omega), bf.trans (belowK_b (w := w) (Nat.le_refl _) Wf D _ _ (by omega) df rfl rfl), kf.owned go gr⟩)
    obtain ⟨t0, t1⟩ := kc1 HR.out.2.2.2
    have HDF := hid df
    have HWF := hid hWf
    clear hst HST hall ff kf hDr df nk nv hWf
    gi_wp2
    rw [<- HWF.out]
    refine ⟨by simp, .inl ⟨_, _, rfl, run_takeDeferred HDF.out, ?_⟩⟩
    exact ⟨.agg #[.slice ka ks.length kc, .slice va ks.length vc], by simp [results, Tryz.results46, go_sem, t0, t1], _, _, ks, us, rfl, HR.out.1, HR.out.2.1, HFO.out, hlen, HR.out.2.2.1⟩
   .obtain ⟨⟨a, y⟩, v, b⟩ := m
    have hz0 := HZ0.out
    have hs1 := hf1.size
    obtain ⟨w3, hw3⟩ : ∃ z, z = (w1.alloc (.cells #[.int .i64 a, .int .i64 y] 113)).alloc (.cells #[.int .i64 v, .bool b] 121) := ⟨_, rfl⟩
    have b3 : Below w1.heap.size w1 w3 := by rw [hw3]; exact (below_alloc w1 _).trans ((below_alloc _ _).mono (by simp))
    have q1 := it_blk hst.it hst.ol.bk (by simp)
    have q2 := it_own hst.it hst.ol.kr
    have q3 := it_own hst.it hst.ol.vr
    have ol3 : OLM 0 W0.heap.size (w.heap.size + 1 + 1) w3 ks us kv vv := (hst.ol.fr hf1 (by omega) (fun g e => by
     subst e
     exact ⟨fun z => q1.1 z.symm, q2.1, q3.1⟩)).fr (Fr.of_below (fun _ => False) b3) (by omega) (fun g z => z.elim)
    have hs3 := b3.size
    have hkl : ks.length < 1048576 := by
     have h1 := hst.kl
     have h2 := sub_len (D := Dn) (E := t.M.map Prod.fst) hst.nd (fun d hd => by obtain ⟨v, hv⟩ := hst.hd d hd; exact List.mem_map_of_mem hv)
     rw [List.length_map] at h2
     omega
    have hmg : mget t.M (a, y) = some (v, b) := mget_mem hst.it.mp.nodup hm
    have nk : (kv.ownBlock ≠ some (w.heap.size + 1 + 1)) := fun e => by have := (hst.ol.kr.lt _ e).1; omega
    have nv : (vv.ownBlock ≠ some (w.heap.size + 1 + 1)) := fun e => by have := (hst.ol.vr.lt _ e).1; omega
    have hlw : w.heap.size + 1 + 1 < w3.heap.size := by have := hst.b0l; omega
    have hBw : W0.heap.size <= w3.heap.size := by have := hst.b0l; omega
    have HPT := hid (put_int W0.heap.size (w.heap.size + 1 + 1) 0 [kv, vv] kv vv ks us y v w3 ol3.bk hlw rfl rfl ol3.kr ol3.vr hst.od.srt hkl nk nv ol3.ds hBw)
    have HDR := hid (drop_int W0.heap.size (w.heap.size + 1 + 1) 0 [kv, vv] kv vv ks us y w3 ol3.bk hlw rfl rfl ol3.kr ol3.vr hst.od.srt hkl nk nv ol3.ds)
    have HSTEP := hid (fun (S : Nat -> Prop) (w4 : World) (ks' us' : List Int) (kv' vv' : Value) => ST2.step (w4 := w4) (ks' := ks') (us' := us') (kv' := kv') (vv' := vv') (S := S) hst rfl hz0 hm hnD hit1 hf1 hlt hWW b3)
    have HOL := hid ol3
    have HOD := hid hst.od
    have HMG := hid hmg
    have HW3 := hid hw3
    clear hst HST ol3 hmg hw3 q1 q2 q3 hit1 hf1 hlt b3 nk nv hm hnD
    simp only [sptV, vsnV] at hrun hen
    by_cases han : a = (n : Int)
    .subst han
     have fac : ((n : Int) != (n : Int)) = false := by simp
     cases b with
     | true =>
       gi_wp2_with (refine ⟨trivial, ?_⟩; rw [<- HW3.out]; gi_at_call 68; refine (callsIn_wide.2 HPT.out).mono ?_; rintro e w4 ⟨kv', vv', rr, rfl, R⟩)
       have HN := hid (HSTEP.out _ w4 _ _ kv' vv' (fun g z => z) R.fr (OLM.after R) ((HOD.out.put y v).congr (fun z => by rw [gD_same _ _ _ _ _ _ _ _ HMG.out]; rfl)) (putKs_le ks y))
       clear HSTEP R
       go_roundw
       case rel => exact ⟨_, _, _, _, _, hid HN.out.1⟩
       case measure => exact HN.out.2
     | false =>
       gi_wp2_with (refine ⟨trivial, ?_⟩; rw [<- HW3.out]; gi_at_call 69; refine (callsIn_wide.2 HDR.out).mono ?_; rintro e w4 ⟨kv', vv', rr, rfl, R⟩)
       have HN := hid (HSTEP.out _ w4 _ _ kv' vv' (fun g z => z) R.fr (OLM.after R) ((HOD.out.drop y).congr (fun z => by rw [gD_same _ _ _ _ _ _ _ _ HMG.out]; rfl)) (Nat.le_succ_of_le (dropKs_le ks y)))
       clear HSTEP R
       go_roundw
       case rel => exact ⟨_, _, _, _, _, hid HN.out.1⟩
       case measure => exact HN.out.2
    .have fac : (a != (n : Int)) = true := by simpa using han
     have HN := hid (HSTEP.out (fun _ => False) w3 ks us kv vv (fun g z => z.elim) (Fr.refl _ _) HOL.out (HOD.out.congr (fun z => (gD_other _ _ _ _ _ _ _ _ han).symm)) (Nat.le_succ _))
     clear HSTEP HPT HDR
     gi_wp2
     rw [<- HW3.out]
     go_roundw
     case rel => exact ⟨_, _, _, _, _, hid HN.out.1⟩
     case measure => exact HN.out.2
 case stop =>
  rintro D c pre W _ _ h _
  exact h.elim
end Go.Proofs.YtblkgicbimflhaaGreat
namespace Go.Proofs.YtblkgicbimflhaaGreat
open Go.ChangeShapes Go.WideShapes Go.ChangeAt Go.RowKit
set_option linter.unusedVariables false
set_option linter.unusedSimpArgs false
set_option maxRecDepth 100000
set_option maxHeartbeats 16000000
theorem fault_run (x : Bas) (o : Opn) (h : faultC o.kd o.ss o.tb o.md (!(x.tx.getD (o.ss - 1).toNat tx0).op) ≠ 0) : runF x o = (x, ⟨faultC o.kd o.ss o.tb o.md (!(x.tx.getD (o.ss - 1).toNat tx0).op), 0, 0, false, []⟩) := by
 unfold faultC at h ⊢
 unfold runF
 simp only
 generalize (x.tx.getD (o.ss - 1).toNat tx0).op = q at h ⊢
 by_cases h1 : ¬ (1 <= o.kd /\ o.kd <= 10) \/ ¬ (1 <= o.ss /\ o.ss <= 4)
 .rw [if_pos h1, if_pos (by omega)]
 rw [if_neg h1] at h ⊢
 rw [if_neg (by omega)]
 by_cases h2 : decide (o.kd = 1) ≠ !q
 .rw [if_pos h2, if_pos]
  cases q
  .have : decide (o.kd = 1) = false := by simpa using h2
   rw [show (o.kd == 1) = decide (o.kd = 1) from rfl]; exact this
  .have : decide (o.kd = 1) = true := by simpa using h2
   rw [show (o.kd == 1) = decide (o.kd = 1) from rfl]; exact this
 rw [if_neg h2] at h ⊢
 rw [if_neg (fun e => h2 (by rw [show (o.kd == 1) = decide (o.kd = 1) from rfl] at e; rw [e]; cases q <;> simp))]
 by_cases h3 : (2 <= o.kd /\ o.kd <= 5) /\ ¬ (0 <= o.tb /\ o.tb <= 31)
 .rw [if_pos h3, if_pos (by omega)]
 rw [if_neg h3] at h ⊢
 rw [if_neg (by omega)]
 by_cases h4 : o.kd = 1 /\ o.md ≠ 1 /\ o.md ≠ 2
 .rw [if_pos h4, if_pos h4.1, if_pos h4.2]
 .rw [if_neg h4] at h
  exact absurd rfl h
theorem fault_no {k s tb md : Int} {q : Bool} (h : faultC k s tb md (!q) = 0) : (1 <= k /\ k <= 10) /\ (1 <= s /\ s <= 4) /\ (k = 1 -> q = false /\ (md = 1 \/ md = 2)) /\ (k ≠ 1 -> q = true) /\ (2 <= k -> k <= 5 -> 0 <= tb /\ tb < 32) := by
 unfold faultC at h
 by_cases h1 : ¬ (1 <= k /\ k <= 10) \/ ¬ (1 <= s /\ s <= 4)
 .rw [if_pos h1] at h; omega
 rw [if_neg h1] at h
 by_cases h2 : decide (k = 1) ≠ !q
 .rw [if_pos h2] at h; omega
 rw [if_neg h2] at h
 by_cases h3 : (2 <= k /\ k <= 5) /\ ¬ (0 <= tb /\ tb <= 31)
 .rw [if_pos h3] at h; omega
 rw [if_neg h3] at h
 by_cases h4 : k = 1 /\ md ≠ 1 /\ md ≠ 2
 .rw [if_pos h4] at h; omega
 have h2' : decide (k = 1) = !q := Classical.byContradiction h2
 refine ⟨by omega, by omega, fun e => ⟨?_, by omega⟩, fun e => ?_, fun _ _ => by omega⟩
 .rw [decide_eq_true e] at h2'; cases q
  .rfl
  .cases h2'
 .rw [decide_eq_false e] at h2'; cases q
  .cases h2'
  .rfl
theorem IMem.put {B sb i : Nat} {w w' : World} {x : Bas} {L : LIx -> Value} {c : Led} {gh : Nat -> TG} {op : Nat -> Option Addr} (h : IMem B sb w x L c gh op) (hi : i < 4) (ho : opn x i = true) {x' : Txn} (hx : x'.op = true) (ht : TrP B w (gh i) x' w') :
 ∃ gh', IMem B sb w' { x with tx := x.tx.set i x' } L c gh' op /\ Fr (foot sb L x gh) w w' /\ ∀ g, foot sb L { x with tx := x.tx.set i x' } gh' g -> foot sb L x gh g \/ w.heap.size <= g := by
 obtain ⟨t', hT, hg, hf, hfr⟩ := ht
 have hxl : i < x.tx.length := by rw [h.n4]; exact hi
 have hop : ∀ j, opn { x with tx := x.tx.set i x' } j = opn x j := fun j => by
  unfold opn
  simp only
  rw [set_opn x i j x' hxl]
  by_cases e : j = i
  .rw [if_pos e, e, hx]; exact ho.symm
  .rw [if_neg e]
 have hgh : ∀ j b, j < 4 -> opn x j = true -> trF (if j = i then t' else gh j) b -> trF (gh j) b \/ (j = i /\ w.heap.size <= b) := fun j b hj hjo hb => by
  by_cases e : j = i
  .rw [if_pos e] at hb
   subst e
   rcases hf b hb with z | z
   .exact .inl z
   .exact .inr ⟨rfl, z⟩
  .rw [if_neg e] at hb; exact .inl hb
 have hlt : ∀ j b, j < 4 -> opn x j = true -> trF (gh j) b -> b < w.heap.size := fun j b hj hjo hb => (h.tr j hj hjo).2.lt hb
 refine ⟨fun j => if j = i then t' else gh j, ⟨by simpa using h.n4, ?_, ?_, Nat.lt_of_lt_of_le h.sl hfr.size, h.sB, h.cT, h.cH, fun j hj hjo => ?_, fun j hj hjo => ?_, h.ns, fun j hj hjo b hb => ?_, fun j l hj hl hn hjo hlo b hb hb2 => ?_, h.cs⟩, hfr.mono (fun g z => .inr (.inr ⟨i, hi, ho, z⟩)), fun g hg2 => ?_⟩
 .exact h.led.fr hfr (fun g hg z => (h.dl i hi ho g z).1 hg)
 .exact h.ses.fr hfr h.sl (fun z => (h.dl i hi ho sb z).2 rfl)
 .rw [hop] at hjo
  obtain ⟨q1, q2⟩ := h.tr j hj hjo
  simp only
  rw [set_opn x i j x' hxl]
  by_cases e : j = i
  .subst e
   rw [if_pos rfl, if_pos rfl, hg]
   exact ⟨q1, hT⟩
  .rw [if_neg e, if_neg e]
   exact ⟨q1, q2.fr hfr (fun b hb z => h.dt j i hj hi e hjo ho b hb z)⟩
 .rw [hop] at hjo; exact h.no j hj hjo
 .rw [hop] at hjo
  rcases hgh j b hj hjo hb with z | ⟨_, z⟩
  .exact h.dl j hj hjo b z
  .refine ⟨fun q => ?_, ?_⟩
   .have := (h.led.rm.lt q).2; omega
   .have := h.sl; omega
 .rw [hop] at hjo hlo
  rcases hgh j b hj hjo hb with z | ⟨e1, z⟩
  .rcases hgh l b hl hlo hb2 with z2 | ⟨_, z2⟩
   .exact h.dt j l hj hl hn hjo hlo b z z2
   .have := hlt j b hj hjo z; omega
  .rcases hgh l b hl hlo hb2 with z2 | ⟨e2, z2⟩
   .have := hlt l b hl hlo z2; omega
   .exact hn (e1.trans e2.symm)
 .rcases hg2 with z | z | ⟨j, hj, hjo, z⟩
  .exact .inl (.inl z)
  .exact .inl (.inr (.inl z))
  .rw [hop] at hjo
   rcases hgh j g hj hjo z with q | ⟨_, q⟩
   .exact .inl (.inr (.inr ⟨j, hj, hjo, q⟩))
   .exact .inr q
theorem IMem.begun {B sb n : Nat} {w W : World} {x : Bas} {L : LIx -> Value} {c : Led} {gh : Nat -> TG} {op : Nat -> Option Addr} {md : Int} (h : IMem B sb w x L c gh op) (hB : B <= w.heap.size) (hn1 : 1 <= n) (hn2 : n <= 4) (ho : opn x (n - 1) = false) (hb : Below w.heap.size w W) (hk : Blk W (w.heap.size + 1) (tranC x.ck md noMarks w.heap.size (.slice none 0 0))) (hm : MP W w.heap.size []) (hz : w.heap.size + 1 < W.heap.size) :
 ∃ gh' op', IMem B sb (W.setCell ⟨sb, 66 + n, none⟩ (.pointer (some ⟨w.heap.size + 1, 0, none⟩))) { x with tx := x.tx.set (n - 1) ⟨true, md, x.ck, [], rd0, []⟩ } L c gh' op' /\ Fr (foot sb L x gh) w (W.setCell ⟨sb, 66 + n, none⟩ (.pointer (some ⟨w.heap.size + 1, 0, none⟩))) /\ ∀ g, foot sb L { x with tx := x.tx.set (n - 1) ⟨true, md, x.ck, [], rd0, []⟩ } gh' g -> foot sb L x gh g \/ w.heap.size <= g := by
 have hi : n - 1 < 4 := by omega
 have hxl : n - 1 < x.tx.length := by rw [h.n4]; exact hi
 have f2 := Fr.setCell W sb (66 + n) (.pointer (some ⟨w.heap.size + 1, 0, none⟩))
 have hsl := h.sl
 obtain ⟨t', ht'⟩ : ∃ z : TG, z = ⟨w.heap.size + 1, w.heap.size, [], .slice none 0 0, []⟩ := ⟨_, rfl⟩
 have tf : ∀ b, trF t' b -> b = w.heap.size + 1 \/ b = w.heap.size := fun b hb => by
  rw [ht'] at hb
  rcases hb with z | z | z | z
  .exact .inl z
  .exact .inr z
  .simp at z
  .exact (nil_own b z).elim
 have hT : TrM B (W.setCell ⟨sb, 66 + n, none⟩ (.pointer (some ⟨w.heap.size + 1, 0, none⟩))) t' ⟨true, md, x.ck, [], rd0, []⟩ := by
  have : TrM B W t' ⟨true, md, x.ck, [], rd0, []⟩ := by
   rw [ht']
   refine ⟨hk, hz, by simp [rd0], hm, fun t y => rfl, fun m hm => absurd hm (by simp), rfl, Nat.zero_le _, World.ownsRow_nil _ _ _ _, fun j hj _ => absurd hj (by simp), by simp, fun e => nil_own _ e, fun b hb => ?_⟩
   rcases tf b (by rw [ht']; exact hb) with z | z <;> omega
  exact this.fr f2 (fun b hb e => by have e2 : b = sb := e; rcases tf b hb with z | z <;> omega)
 have hop : ∀ j, opn { x with tx := x.tx.set (n - 1) ⟨true, md, x.ck, [], rd0, []⟩ } j = if j = n - 1 then true else opn x j := fun j => by
  unfold opn
  simp only
  rw [set_opn x (n - 1) j _ hxl]
  split <;> rfl
 have hto : ∀ j, j ≠ n - 1 -> opn { x with tx := x.tx.set (n - 1) ⟨true, md, x.ck, [], rd0, []⟩ } j = opn x j := fun j e => by rw [hop, if_neg e]
 have hold : ∀ j b, j < 4 -> opn x j = true -> trF (gh j) b -> b < w.heap.size := fun j b hj hjo hb => (h.tr j hj hjo).2.lt hb
 have h1 := h.below hb
 refine ⟨fun j => if j = n - 1 then t' else gh j, fun j => if j = n then some ⟨w.heap.size + 1, 0, none⟩ else op j, ⟨by simpa using h.n4, ?_, ?_, ?_, h.sB, h.cT, h.cH, fun j hj hjo => ?_, fun j hj hjo => ?_, h.ns, fun j hj hjo b hb => ?_, fun j l hj hl hn hjo hlo b hb hb2 => ?_, h.cs⟩, ?_, fun g hg2 => ?_⟩
 .exact h1.led.fr f2 (fun g hg e => h.ns (by rw [<- (show g = sb from e)]; exact hg))
 .exact ses_open h1.ses n (by omega) (some ⟨w.heap.size + 1, 0, none⟩)
 .have := h1.sl; simp; omega
 .by_cases e : j = n - 1
  .simp only
   rw [set_opn x (n - 1) j _ hxl, if_pos e, if_pos e, if_pos (by omega)]
   exact ⟨by rw [ht'], hT⟩
  .rw [hto j e] at hjo
   obtain ⟨q1, q2⟩ := h1.tr j hj hjo
   simp only
   rw [set_opn x (n - 1) j _ hxl, if_neg e, if_neg e, if_neg (by omega)]
   exact ⟨q1, q2.fr f2 (fun b hb z => (h.dl j hj hjo b hb).2 z)⟩
 .by_cases e : j = n - 1
  .rw [hop, if_pos e] at hjo; cases hjo
  .rw [hto j e] at hjo
   exact (if_neg (by omega)).trans (h.no j hj hjo)
 .by_cases e : j = n - 1
  .simp only [if_pos e] at hb
   have := tf b hb
   refine ⟨fun q => ?_, by omega⟩
   have := (h.led.rm.lt q).2; omega
  .rw [hto j e] at hjo
   simp only [if_neg e] at hb
   exact h.dl j hj hjo b hb
 .by_cases e : j = n - 1
  .have el : ¬ l = n - 1 := fun z => hn (e.trans z.symm)
   rw [hto l el] at hlo
   simp only [if_pos e] at hb
   simp only [if_neg el] at hb2
   have := hold l b hl hlo hb2
   have := tf b hb
   omega
  .rw [hto j e] at hjo
   simp only [if_neg e] at hb
   by_cases el : l = n - 1
   .simp only [if_pos el] at hb2
    have := hold j b hj hjo hb
    have := tf b hb2
    omega
   .rw [hto l el] at hlo
    simp only [if_neg el] at hb2
    exact h.dt j l hj hl hn hjo hlo b hb hb2
 .exact (Fr.of_below _ hb).trans (f2.mono (fun g z => .inl z))
 .rcases hg2 with z | z | ⟨j, hj, hjo, z⟩
  .exact .inl (.inl z)
  .exact .inl (.inr (.inl z))
  .by_cases e : j = n - 1
   .simp only [if_pos e] at z
    rcases tf g z with q | q
    .exact .inr (by omega)
    .exact .inr (by omega)
   .rw [hto j e] at hjo
    simp only [if_neg e] at z
    exact .inl (.inr (.inr ⟨j, hj, hjo, z⟩))
theorem AnsP.of {B sb q : Nat} {w W0 W W' : World} {x : Bas} {L L' : LIx -> Value} {c' : Led} {gh gh' : Nat -> TG} {op' : Nat -> Option Addr} {r : Bas × Obn} {pv : Value} {e : Ending} (hx : ∀ g, foot sb L x gh g -> g < w.heap.size) (hb0 : Below w.heap.size w W0) (hq : w.heap.size <= q) (hq0 : q < W0.heap.size) (hM : IMem B sb W r.1 L' c' gh' op') (hF : Fr (foot sb L x gh) W0 W) (hft : ∀ g, foot sb L' r.1 gh' g -> foot sb L x gh g \/ W0.heap.size <= g) (hfin : Fr (fun g => g = q) W W') (hpv : Gr pairV 92 2 w.heap.size W' pv r.2.ps) (hpn : ∀ g, pv.ownBlock = some g -> ¬ foot sb L' r.1 gh' g) (he : e = .returned (.agg #[.int .i64 r.2.code, .int .i64 r.2.vl, .int .i64 r.2.st, .bool r.2.fd, pv])) : AnsP B sb w x L gh r e W' := by
 have nq : ∀ g, foot sb L' r.1 gh' g -> ¬ g = q := fun g hg e => by
  rcases hft g hg with z | z
  .have := hx g z; omega
  .omega
 have := hb0.size
 exact ⟨L', c', gh', op', pv, he, hpv, hM.fr hfin nq, ((Fr.of_below _ hb0).trans hF).then hfin (fun g e => .inr (by rw [e]; exact hq)), fun g hg => by
  rcases hft g hg with z | z
  .exact .inl z
  .exact .inr (by omega), hpn⟩
def DOp (o : Opn) : Prop := (1 <= o.kd /\ o.kd <= 10) /\ (1 <= o.ss /\ o.ss <= 3) /\ o.nm.size <= 1
def opV (o : Opn) : Value := .agg #[.int .i64 o.kd, .int .i64 o.ss, .int .i64 o.tb, .int .i64 o.ky, .int .i64 o.vl, .int .i64 o.md, .string o.nm]
theorem Blk.upd {c : Nat} {w w' : World} {b : Nat} {cs : List Value} (h : Blk w b cs) (u : Upd c w w') (hb : b < w.heap.size) (hc : b ≠ c) : Blk w' b cs := fun j hj => ⟨(u.cell (p := ⟨b, j, none⟩) hb hc).trans (h j hj).1, (u.frozen (p := ⟨b, j, none⟩) hb hc).trans (h j hj).2⟩
def kinds16 : List Int := [1, 1, 2, 2, 3, 3, 4, 4, 4, 5, 6, 6, 7, 8, 9, 10]
theorem kinds_at {k : Nat} (h : k < 16) : ∃ v : Int, (kinds16.map (Value.int .i64))[k]? = some (.int .i64 v) /\ 1 <= v /\ v <= 10 := by
 have hl : k < kinds16.length := h
 refine ⟨kinds16[k], by rw [List.getElem?_map, List.getElem?_eq_getElem hl]; rfl, ?_⟩
 have : ∀ v ∈ kinds16, 1 <= v /\ v <= 10 := by decide
 exact this _ (List.getElem_mem hl)
theorem Upd.new {c g : Nat} {w W W' : World} (h : Upd c w W) (k : Upd g W W') (hg : w.heap.size <= g) : Upd c w W' := ⟨k.os.trans h.os, k.tape.trans h.tape, k.output.trans h.output, Nat.le_trans h.size k.size, fun j hj hc => (k.block j (Nat.lt_of_lt_of_le hj h.size) (by omega)).trans (h.block j hj hc)⟩
def set7 (w : World) (g : Nat) (a b d e f h : Int) (nm : ByteArray) : World := ((((((w.setCell ⟨g, 0, none⟩ (.int .i64 a)).setCell ⟨g, 1, none⟩ (.int .i64 b)).setCell ⟨g, 2, none⟩ (.int .i64 d)).setCell ⟨g, 3, none⟩ (.int .i64 e)).setCell ⟨g, 4, none⟩ (.int .i64 f)).setCell ⟨g, 5, none⟩ (.int .i64 h)).setCell ⟨g, 6, none⟩ (.string nm)
theorem upd_set7 (w : World) (g : Nat) (a b d e f h : Int) (nm : ByteArray) : Upd g w (set7 w g a b d e f h nm) := (((((((Upd.refl g w).setCell 0 _).setCell 1 _).setCell 2 _).setCell 3 _).setCell 4 _).setCell 5 _).setCell 6 _
def opL (a b d e f h : Int) (nm : ByteArray) : List Value := [.int .i64 a, .int .i64 b, .int .i64 d, .int .i64 e, .int .i64 f, .int .i64 h, .string nm]
theorem blk_set7 {w : World} {g : Nat} {a b d e f h : Int} {nm : ByteArray} {cs : List Value} (hk : Blk w g cs) (hl : cs.length = 7) : Blk (set7 w g a b d e f h nm) g (opL a b d e f h nm) := by
 have h1 := ((((((hk.set 0 (.int .i64 a) (by omega)).set 1 (.int .i64 b) (by simp; omega)).set 2 (.int .i64 d) (by simp; omega)).set 3 (.int .i64 e) (by simp; omega)).set 4 (.int .i64 f) (by simp; omega)).set 5 (.int .i64 h) (by simp; omega)).set 6 (.string nm) (by simp; omega)
 match cs, hl with
 | [_, _, _, _, _, _, _], _ => exact h1
def opK (o : Opn) : List Value := [.int .i64 o.kd, .int .i64 o.ss, .int .i64 o.tb, .int .i64 o.ky, .int .i64 o.vl, .int .i64 o.md, .string o.nm]
theorem own_upd {c : Nat} {w w' : World} {b e k n : Nat} {v : Value} {xs : List Value} (h : w.ownsRow b e k v n xs) (u : Upd c w w') (hc : c < b) : w'.ownsRow b e k v n xs := by
 have hl := fun g hg => h.lt g hg
 obtain ⟨h1, h2⟩ := h
 refine ⟨h1, ?_⟩
 rcases h2 with h2 | ⟨g, cap, cur, rfl, hg1, hg2, hg3⟩
 .exact .inl h2
 .exact .inr ⟨g, cap, cur, rfl, hg1, by rw [u.block g (hl g rfl).2 (by omega)]; exact hg2, hg3⟩
theorem infoOp : (Tryz.prog.info? 41).map (fun i => (i.zero, i.size, i.bytes)) = some (some (.agg #[.int .i64 0, .int .i64 0, .int .i64 0, .int .i64 0, .int .i64 0, .int .i64 0, .string ByteArray.empty]), 7, 64) := by kernel_rfl
theorem infoBoo : (Tryz.prog.info? 4).map (fun i => (i.zero, i.size, i.bytes)) = some (some (.bool false), 1, 1) := by kernel_rfl
theorem mk5 (W : World) : (Instr.makeSlice 39 (.int .i64 5) (.int .i64 5)).run Tryz.prog W = .ok (.slice (some ⟨W.heap.size, 0, none⟩) 5 5) (W.alloc (.cells #[.bool false, .bool false, .bool false, .bool false, .bool false] 4)) := by
 obtain ⟨i0, hi, hz0, hz1, hz2⟩ := info_parts infoBoo
 have h := run_makeSlice W 39 4 i0 _ Tryz.underlying39 hi hz0 .i64 .i64 5 5 (by decide) (by decide) (by rw [hz1]; decide) (by rw [hz2]; decide) (by decide)
 rw [hz1] at h
 have e : madeCells (Value.bool false).cells (Int.toNat 5 * 1) = #[.bool false, .bool false, .bool false, .bool false, .bool false] := by first | rfl | kernel_rfl | decide
 rw [e] at h
 exact h
theorem oneOp (o : Opn) : ∀ u ∈ opK o, u.oneCell' = true := fun u hu => by
 unfold opK at hu
 simp at hu
 rcases hu with rfl | rfl | rfl | rfl | rfl | rfl | rfl <;> rfl
end Go.Proofs.YtblkgicbimflhaaGreat
