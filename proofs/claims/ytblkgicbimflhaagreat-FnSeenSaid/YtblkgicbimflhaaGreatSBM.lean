import Derived.Test.YtblkgicbimflhaaGreatSBL
namespace Go.Proofs.YtblkgicbimflhaaGreat
open Go.ChangeShapes Go.WideShapes Go.ChangeAt Go.RowKit
set_option linter.unusedVariables false
set_option linter.unusedSimpArgs false
set_option maxRecDepth 100000
set_option maxHeartbeats 16000000
open Go.Shelf
attribute [local go_sem] Oper.semAt_some
theorem own_owned {W W' : World} {B e K n : Nat} {v : Value} {xs : List Value} {row : Option Nat} (h : W.ownsRow B e K v n xs) (hg : W.grownBy W' row) (hr : ∀ r, row = some r -> ∃ o : Obj, W.heap[r]? = some o /\ o.isCells = false) : W'.ownsRow B e K v n xs := by
 obtain ⟨h1, h2⟩ := h
 refine ⟨h1, ?_⟩
 rcases h2 with h2 | ⟨g, cap, cur, rfl, hg1, hg2, hg3⟩
 .exact .inl h2
 .refine .inr ⟨g, cap, cur, rfl, hg1, ?_, hg3⟩
  rw [hg.block g (Array.getElem?_eq_some_iff.1 hg2).1 (fun e2 => by
   obtain ⟨o, ho, hc⟩ := hr g e2.symm
   rw [hg2] at ho
   injection ho with ho
   rw [<- ho] at hc
   cases hc)]
  exact hg2
theorem ii_stops (F : Fence) (m : Nat) (h6 : F.fn 83) (hro : F.round = none) (hm : 1 <= m) (Bs ob oo B : Nat) (S : Nat -> Prop) (ks us : List Int) (hul : us.length = ks.length) (kv vv : Value) (hBs : S Bs) (hob : S ob) (hkS : ∀ g, kv.ownBlock = some g -> S g) (hvS : ∀ g, vv.ownBlock = some g -> S g) (hn : ks.length <= 1048576) (w : World) (hS : ∀ b, S b -> b < w.heap.size) (c0 : w.cell? ⟨Bs, 0, none⟩ = some (.pointer (some ⟨ob, oo, none⟩))) (c1 : w.cell? ⟨ob, oo, none⟩ = some kv) (c2 : w.cell? ⟨ob, oo + 1, none⟩ = some vv) (hK : w.ownsRow B 3 1 kv ks.length (ks.map (Value.int .i64))) (hV : w.ownsRow B 3 1 vv ks.length (us.map (Value.int .i64))) :
 SeqStopsK F m Tryz.prog 83 #[.pointer (some ⟨Bs, 0, none⟩)] encP (KIn S) (fun ys => ys = ks.zip us) (fun _ => True) ks.length w := fun l J Jx W hW _ _ hY h0 =>
 all1_ii F m h6 hro hm l Bs ob oo B S ks us hul kv vv hBs hob hkS hvS hn J Jx hY W ((hW.cell (p := ⟨Bs, 0, none⟩) (hS _ hBs)).trans c0) ((hW.cell (p := ⟨ob, oo, none⟩) (hS _ hob)).trans c1) ((hW.cell (p := ⟨ob, oo + 1, none⟩) (hS _ hob)).trans c2) (own_below hK hW) (own_below hV hW) h0
theorem iv_stops (F : Fence) (m : Nat) (h6 : F.fn 84) (hro : F.round = none) (hm : 1 <= m) (Bs ob oo B : Nat) (S : Nat -> Prop) (ks : List Int) (f : Int -> Value × Value) (hff : ∀ y, (∃ a n c, (f y).1 = .slice a n c) /\ ∃ a n c, (f y).2 = .slice a n c) (kv vv : Value) (hBs : S Bs) (hob : S ob) (hkS : ∀ g, kv.ownBlock = some g -> S g) (hvS : ∀ g, vv.ownBlock = some g -> S g) (hn : ks.length <= 1048576) (w : World) (hS : ∀ b, S b -> b < w.heap.size) (c0 : w.cell? ⟨Bs, 0, none⟩ = some (.pointer (some ⟨ob, oo, none⟩))) (c1 : w.cell? ⟨ob, oo, none⟩ = some kv) (c2 : w.cell? ⟨ob, oo + 1, none⟩ = some vv) (hK : w.ownsRow B 3 1 kv ks.length (ks.map (Value.int .i64))) (hV : w.ownsRow B 155 2 vv ks.length (ks.flatMap (fun y => [(f y).1, (f y).2]))) :
 SeqStopsK F m Tryz.prog 84 #[.pointer (some ⟨Bs, 0, none⟩)] (encV f ks) (KIn S) (fun ys => ys = ks.attach) (fun _ => True) ks.length w := fun l J Jx W hW _ _ hY h0 =>
 all1_iv F m h6 hro hm l Bs ob oo B S ks f hff kv vv hBs hob hkS hvS hn J Jx hY W ((hW.cell (p := ⟨Bs, 0, none⟩) (hS _ hBs)).trans c0) ((hW.cell (p := ⟨ob, oo, none⟩) (hS _ hob)).trans c1) ((hW.cell (p := ⟨ob, oo + 1, none⟩) (hS _ hob)).trans c2) (own_below hK hW) (own_below hV hW) h0
theorem gr_push {b : Nat} {w : World} {v : Value} {ps : List (Int × Int)} {p : Int × Int} (h : w.ownsRow b 92 2 v (ps.length + 1) (ps.flatMap pairV ++ pairV p)) : Gr pairV 92 2 b w v (ps ++ [p]) := by
 unfold Gr
 rw [List.length_append, List.flatMap_append]
 simpa using h
theorem keeps_fr {B : Nat} {T : Nat -> Prop} {W W' : World} (h : Fr T W W') (hc : ∀ g o, T g -> W.heap[g]? = some o -> o.isCells = true) : KeepsFrom B W W' := ⟨h.size, fun k o _ h0 ho => (h.block k (Array.getElem?_eq_some_iff.1 h0).1 (fun z => by rw [hc k o z h0] at ho; cases ho)).trans h0⟩
theorem blk_cells {W : World} {b : Nat} {cs : List Value} (h : Blk W b cs) (hl : 0 < cs.length) {o : Obj} (ho : W.heap[b]? = some o) : o.isCells = true := by
 have h1 := (h 0 hl).1
 rw [List.getElem?_eq_getElem hl] at h1
 simp only [World.cell?, ho] at h1
 cases o <;> first | rfl | (simp at h1)
theorem own_cellsO {W : World} {B e K n g : Nat} {v : Value} {xs : List Value} (h : W.ownsRow B e K v n xs) (hg : v.ownBlock = some g) {o : Obj} (ho : W.heap[g]? = some o) : o.isCells = true := by
 rcases h.2 with ⟨h2, _⟩ | ⟨g', cap, cur, rfl, h3, h4, _⟩
 .rw [h2] at hg; simp [Value.ownBlock] at hg
 .have : g' = g := by simpa [Value.ownBlock] using hg
  subst this
  rw [h4] at ho
  injection ho with ho
  rw [<- ho]
  rfl
def PairI (w : World) (b : Nat) (pre : List (Int × Int)) (W : World) : Prop := (∃ pv, Blk W (w.heap.size + 1) [pv] /\ Gr pairV 92 2 b W pv pre) /\ b <= W.heap.size /\ Below w.heap.size w W
theorem pairsIn_any (B : Nat) (kv vv : Value) (ks us : List Int) (w : World) (hul : us.length = ks.length) (hn : ks.length <= 1048575) (hK : w.ownsRow B 3 1 kv ks.length (ks.map (Value.int .i64))) (hV : w.ownsRow B 3 1 vv ks.length (us.map (Value.int .i64))) :
 Calls Tryz.prog 45 #[.agg #[kv, vv]] w fun e w' => ∃ pv, e = .returned pv /\ Gr pairV 92 2 w.heap.size w' pv (ks.zip us) /\ Below w.heap.size w w' := by
 obtain ⟨i0, hi, hz0, hz1, hz2⟩ := info_parts infoPr
 obtain ⟨ka, kc, hkf⟩ := formR hK
 obtain ⟨va, vc, hvf⟩ := formR hV
 have hkl : ∀ g, kv.ownBlock = some g -> g < w.heap.size := fun g hg => (hK.lt g hg).2
 have hvl : ∀ g, vv.ownBlock = some g -> g < w.heap.size := fun g hg => (hV.lt g hg).2
 subst hkf hvf
 obtain ⟨W0, hW0⟩ : ∃ W0, ((w.alloc (.cells #[.slice ka ks.length kc, .slice va ks.length vc] 125)).alloc (.cells #[.slice none 0 0] 36)).alloc (.cells #[.pointer (some ⟨w.heap.size, 0, none⟩)] 176) = W0 := ⟨_, rfl⟩
 have hsz : W0.heap.size = w.heap.size + 1 + 1 + 1 := by rw [<- hW0]; simp
 have hB0 : Below w.heap.size w W0 := by rw [<- hW0]; exact (((Below.refl _ w).alloc (Nat.le_refl _) _).alloc (by simp) _).alloc (by simp; omega) _
 have KA : Blk W0 w.heap.size [.slice ka ks.length kc, .slice va ks.length vc] := by rw [<- hW0]; exact blkA w [.slice ka ks.length kc, .slice va ks.length vc] [.slice none 0 0] [.pointer (some ⟨w.heap.size, 0, none⟩)] _ _ _
 have KB : Blk W0 (w.heap.size + 1) [.slice none 0 0] := by rw [<- hW0]; exact blkB w [.slice ka ks.length kc, .slice va ks.length vc] [.slice none 0 0] [.pointer (some ⟨w.heap.size, 0, none⟩)] _ _ _
 have KC : Blk W0 (w.heap.size + 1 + 1) [.pointer (some ⟨w.heap.size, 0, none⟩)] := by rw [<- hW0]; exact blkC w [.slice ka ks.length kc, .slice va ks.length vc] [.slice none 0 0] [.pointer (some ⟨w.heap.size, 0, none⟩)] _ _ _
 have HSQ := hid (ii_stops Fence.wide 2 trivial rfl (by omega) (w.heap.size + 1 + 1) w.heap.size 0 B (fun b => b < w.heap.size + 1 \/ b = w.heap.size + 1 + 1) ks us hul (.slice ka ks.length kc) (.slice va ks.length vc) (.inr rfl) (.inl (by omega)) (fun g hg => .inl (by have := hkl g hg; omega)) (fun g hg => .inl (by have := hvl g hg; omega)) (by omega) W0 (fun b hb => by rcases hb with z | z <;> omega) (KC 0 (by simp)).1 (KA 0 (by simp)).1 (KA 1 (by simp)).1 (own_below hK hB0) (own_below hV hB0))
 have HKB := hid KB
 clear KA KB KC hK hV hkl hvl
 refine (callsIn_wide (n := 3)).1 ?_
 refine callsIn_of_wp_marks Tryz.func45 rfl trivial ?_ rfl
 simp only [Tryz.ntmps45, List.size_toArray, List.length_cons, List.length_nil, Nat.reduceAdd, Nat.reduceSub, Array.replicate_succ, Array.replicate_zero, List.push_toArray, List.append_toArray, List.nil_append, List.cons_append]
 gi_wp2_with (refine ⟨trivial, ?_⟩; gi_at_call 66; refine (all_in_ii Fence.wide _ trivial rfl _ _ _).mono ?_; rintro e w' ⟨rfl, rfl⟩)
 try rw [hW0]
 clear hW0
 refine wpIn_rangeFunc_ownG rfl (by omega) (gf := 83) (lb := #[.pointer (some ⟨w.heap.size + 1 + 1, 0, none⟩)]) rfl trivial (enters_of Tryz.func83 (by kernel_rfl) rfl)
  HSQ.out KIn.trans (fun W l o o' hl _ _ _ => KIn.put (fun z => by rcases z with z | z <;> omega)) (Below.refl _ _) (fun _ => rfl)
  (PairI w W0.heap.size)
  (fun _ _ _ => False)
  (fun s A B row hs hg hr => by
   obtain ⟨⟨pv, k1, k2⟩, k4, k3⟩ := hs
   exact ⟨⟨pv, k1.owned hg (fun r e => (hr r e).2), own_owned k2 hg (fun r e => (hr r e).2)⟩, Nat.le_trans k4 hg.size, ownFrom_below (β := Unit) (Nat.le_refl _) (by omega) () A B row k3 hg hr⟩)
  (fun _ _ _ _ _ hs _ _ => hs)
  ⟨⟨_, HKB.out, gr_nil _ _ _ _ _⟩, Nat.le_refl _, hB0⟩
  (fun x => { tmps := #[.agg #[.slice ka ks.length kc, .slice va ks.length vc], .pointer (some ⟨w.heap.size, 0, none⟩), .slice none 0 0, .pointer (some ⟨w.heap.size + 1, 0, none⟩), .int .i64 x.1, .int .i64 x.2, .func (.func 83) #[] #[.pointer (some ⟨w.heap.size + 1 + 1, 0, none⟩)], .int .i64 x.1, .int .i64 x.2, undef, undef, undef, undef, undef, undef, undef], defers := [] }) ?assign ?body ?done ?stop
 case assign =>
  intro l x W K hK
  simp only [encP]
  gi_wp2
  exact hK
 case body =>
  rintro l pre x W ⟨⟨pv, kb, kg⟩, hW0, hB⟩ hlt
  obtain ⟨pa, pc, hpf⟩ := formR kg
  subst hpf
  have hBs := hB.size
  have kc0 : W.cell? ⟨w.heap.size + 1, 0, none⟩ = some (.slice pa pre.length pc) := (kb 0 (by simp)).1
  have kc1 : W.frozen? ⟨w.heap.size + 1, 0, none⟩ = false := (kb 0 (by simp)).2
  have hWs : w.heap.size + 1 < W.heap.size := by omega
  have ba := below_alloc W (.cells #[.int .i64 x.1, .int .i64 x.2] 92)
  have kga := own_below kg ba
  have kba := kb.below ba hWs
  have hpl : pre.length < 1048576 := by omega
  have HKG := hid kg
  have HKB2 := hid kb
  have HGA := hid kga
  have HBA := hid kba
  have HBB := hid hB
  clear kg kb kga kba HSQ HKB
  gi_wp2_with (gi_at_builtin; refine wpListIn_append_own _ rfl (.tmp 9) (.tmp 13) 36 rfl W0.heap.size 92 i0 _ 2 16 Tryz.underlying36 hi hz0 hz1 hz2 rfl (by decide) _ _ _ rfl HGA.out ⟨W.heap.size, 0, none⟩ 1 1 (pairV x) rfl rfl (cells_new _ (pairV x) 92 _ rfl) (by intro u hu; simp [pairV] at hu; rcases hu with rfl | rfl <;> rfl) (by unfold maxLen; omega) (by omega) (by simp; omega) ?_; intro v' w1 hown hgrow _; obtain ⟨na, nc, hvn⟩ := formR hown; subst hvn; have hnb : (Value.slice pa pre.length pc).ownBlock ≠ some (w.heap.size + 1) := fun e => (by have := (HGA.out.lt _ e).1; omega); have KN := HBA.out.keptG hgrow (by simp; omega) hnb; have z0 : w1.cell? ⟨w.heap.size + 1, 0, none⟩ = some (.slice pa pre.length pc) := (KN 0 (by simp)).1; have z1 : w1.frozen? ⟨w.heap.size + 1, 0, none⟩ = false := (KN 0 (by simp)).2; have HOW := hid hown; have HGR := hid hgrow; have HKN := hid KN; clear hown hgrow KN hnb)
  have fg := ((Fr.of_below (fun g => g = w.heap.size + 1 \/ (Value.slice pa pre.length pc).ownBlock = some g) ba).trans ((Fr.grown HGR.out).mono (fun g e => .inr e))).trans ((Fr.setCell w1 (w.heap.size + 1) 0 (.slice na (pre.length + 1) nc)).mono (fun g e => .inl e))
  refine ⟨keeps_fr fg (fun g o hg ho => ?_), KIn.of_fr fg (fun b hb => ?_), ⟨⟨_, HKN.out.set 0 (.slice na (pre.length + 1) nc) (by simp), ?_⟩, Nat.le_trans hW0 fg.size, ?_⟩⟩
  .rcases hg with z | z
   .subst z; exact blk_cells HKB2.out (by simp) ho
   .exact own_cellsO HKG.out z ho
  .refine ⟨by rcases hb with z | z <;> omega, fun z => ?_⟩
   rcases z with z | z
   .rcases hb with y | y <;> omega
   .have := (HKG.out.lt _ z).1
    rcases hb with y | y <;> omega
  .refine gr_push (own_fr HOW.out (Fr.setCell w1 (w.heap.size + 1) 0 _) (fun g hg e => ?_))
   have e2 : g = w.heap.size + 1 := e
   have := (HOW.out.lt g hg).1
   omega
  .refine HBB.out.trans (fg.below hBs (fun g hg => ?_))
   rcases hg with z | z
   .omega
   .have := (HKG.out.lt _ z).1; omega
 case done =>
  rintro D ys W hD rfl ⟨⟨pv, kb, kg⟩, hW0, hB⟩ hK
  obtain ⟨pa, pc, hpf⟩ := formR kg
  rw [show (ks.zip us).length = ks.length by rw [List.length_zip, hul, Nat.min_self]] at hpf
  subst hpf
  have kc0 : W.cell? ⟨w.heap.size + 1, 0, none⟩ = some (.slice pa ks.length pc) := (kb 0 (by simp)).1
  have HG : Hid (Gr pairV 92 2 w.heap.size (W.putObj D (.deferred none)) (.slice pa ks.length pc) (ks.zip us) /\ Below w.heap.size w (W.putObj D (.deferred none))) := hid (⟨own_bs (own_owned kg (grownBy_putObj' _ D (.deferred none)) (fun r e => by cases e; exact ⟨_, hK, rfl⟩)) (by omega), hB.trans (belowK_b (w := w) (Nat.le_refl _) W D _ _ (by omega) hK rfl rfl)⟩)
  clear kg kb HSQ HKB
  gi_wp2
  refine ⟨by simp, .inl ⟨_, _, rfl, run_takeDeferred hK, ?_⟩⟩
  exact ⟨.slice pa ks.length pc, by simp [results, Tryz.results45, go_sem], _, rfl, HG.out.1, HG.out.2⟩
 case stop =>
  rintro D c pre W _ _ h _
  exact h.elim
end Go.Proofs.YtblkgicbimflhaaGreat
namespace Go.Proofs.YtblkgicbimflhaaGreat
open Go.ChangeShapes Go.WideShapes Go.ChangeAt Go.RowKit
set_option linter.unusedVariables false
set_option linter.unusedSimpArgs false
set_option maxRecDepth 100000
set_option maxHeartbeats 16000000
structure OrdL (ks us : List Int) (g : Int -> Option Int) : Prop where
 srt : ks.Pairwise (· < ·)
 val : us = ks.map (fun y => (g y).getD 0)
 mem : ∀ y, y ∈ ks ↔ (g y).isSome = true
theorem OrdL.len {ks us : List Int} {g : Int -> Option Int} (h : OrdL ks us g) : us.length = ks.length := by rw [h.val, List.length_map]
theorem OrdL.nil : OrdL [] [] (fun _ => none) := ⟨List.Pairwise.nil, rfl, fun y => by simp⟩
theorem OrdL.congr {ks us : List Int} {g g' : Int -> Option Int} (h : OrdL ks us g) (e : ∀ y, g y = g' y) : OrdL ks us g' := by
 have : g = g' := funext e
 rw [<- this]; exact h
theorem OrdL.put {ks us : List Int} {g : Int -> Option Int} (h : OrdL ks us g) (x u : Int) : OrdL (putKs ks x) (putVs ks us x u) (fun y => if y = x then some u else g y) := by
 refine ⟨putKs_sorted h.srt x, ?_, fun y => ?_⟩
 .rw [h.val]
  have := putVs_map h.srt (fun y => (g y).getD 0) (fun y => (if y = x then some u else g y).getD 0) x (fun z hz => by simp only [if_neg hz])
  simp only [if_true, Option.getD_some] at this
  exact this
 .rw [putKs_mem, h.mem]
  by_cases e : y = x
  .simp [e]
  .simp [e]
theorem dropKs_filter {ks : List Int} (hs : ks.Pairwise (· < ·)) (x : Int) : dropKs ks x = ks.filter (fun y => decide (y ≠ x)) := by
 unfold dropKs
 cases hc : ks.contains x
 .rw [if_neg (by simp)]
  have hx : ¬ x ∈ ks := fun z => by rw [List.contains_iff_mem.2 z] at hc; cases hc
  exact (List.filter_eq_self.2 (fun a ha => by simp; exact fun e => hx (by rw [<- e]; exact ha))).symm
 .rw [if_pos rfl]
  have hx : x ∈ ks := by simpa using hc
  have hp := posN_at hs hx
  obtain ⟨hl, he⟩ := List.getElem?_eq_some_iff.1 hp
  obtain ⟨h1, h2⟩ := pos_split (x := x) hs
  have ed : ks.drop (posN ks x) = x :: ks.drop (posN ks x + 1) := by
   have q := (List.getElem_cons_drop hl).symm
   rw [he] at q; exact q
  have h3 : ∀ z ∈ ks.drop (posN ks x + 1), x < z := by
   have hs2 : (ks.drop (posN ks x)).Pairwise (· < ·) := hs.sublist (List.drop_sublist _ _)
   rw [ed] at hs2
   exact (List.pairwise_cons.1 hs2).1
  have e := List.take_append_drop (posN ks x) ks
  rw [ed] at e
  have ef : ks.filter (fun y => decide (y ≠ x)) = (ks.take (posN ks x) ++ x :: ks.drop (posN ks x + 1)).filter (fun y => decide (y ≠ x)) := by rw [e]
  rw [ef, List.filter_append, List.filter_cons_of_neg (by simp)]
  congr 1
  .exact (List.filter_eq_self.2 (fun a ha => by have := h1 a ha; simp; omega)).symm
  .exact (List.filter_eq_self.2 (fun a ha => by have := h3 a ha; simp; omega)).symm
theorem dropVs_map (ks : List Int) (f : Int -> Int) (x : Int) : dropVs ks (ks.map f) x = (dropKs ks x).map f := by
 unfold dropVs dropKs
 split
 .rw [List.map_append, List.map_take, List.map_drop]
 .rfl
theorem dropKs_le (ks : List Int) (x : Int) : (dropKs ks x).length <= ks.length := by
 unfold dropKs
 split
 .simp; omega
 .exact Nat.le_refl _
theorem OrdL.drop {ks us : List Int} {g : Int -> Option Int} (h : OrdL ks us g) (x : Int) : OrdL (dropKs ks x) (dropVs ks us x) (fun y => if y = x then none else g y) := by
 have hm : ∀ y, y ∈ dropKs ks x ↔ y ∈ ks /\ y ≠ x := fun y => by rw [dropKs_filter h.srt, List.mem_filter]; simp
 refine ⟨?_, ?_, fun y => ?_⟩
 .rw [dropKs_filter h.srt]; exact h.srt.sublist List.filter_sublist
 .rw [h.val, dropVs_map]
  exact List.map_congr_left (fun y hy => by simp only [if_neg ((hm y).1 hy).2])
 .rw [hm, h.mem]
  by_cases e : y = x
  .simp [e]
  .simp [e]
structure OLM (B b0 lb : Nat) (W : World) (ks us : List Int) (kv vv : Value) : Prop where
 bk : Blk W lb [kv, vv]
 kr : W.ownsRow b0 3 1 kv ks.length (ks.map (Value.int .i64))
 vr : W.ownsRow b0 3 1 vv ks.length (us.map (Value.int .i64))
 ds : ∀ g, kv.ownBlock = some g -> vv.ownBlock ≠ some g
theorem OLM.fr {B b0 lb : Nat} {S : Nat -> Prop} {W W' : World} {ks us : List Int} {kv vv : Value} (h : OLM B b0 lb W ks us kv vv) (hf : Fr S W W') (hl : lb < W.heap.size) (hS : ∀ g, S g -> g ≠ lb /\ kv.ownBlock ≠ some g /\ vv.ownBlock ≠ some g) : OLM B b0 lb W' ks us kv vv :=
 ⟨h.bk.fr hf hl (fun z => (hS _ z).1 rfl), own_fr h.kr hf (fun g hg z => (hS g z).2.1 hg), own_fr h.vr hf (fun g hg z => (hS g z).2.2 hg), h.ds⟩
theorem OLM.owned {B b0 lb : Nat} {W W' : World} {ks us : List Int} {kv vv : Value} {row : Option Nat} (h : OLM B b0 lb W ks us kv vv) (hg : W.grownBy W' row) (hr : ∀ r, row = some r -> ∃ o : Obj, W.heap[r]? = some o /\ o.isCells = false) : OLM B b0 lb W' ks us kv vv := ⟨h.bk.owned hg hr, own_owned h.kr hg hr, own_owned h.vr hg hr, h.ds⟩
theorem OLM.after {B b0 lb : Nat} {W W' : World} {ks' us' : List Int} {kv vv kv' vv' : Value} (R : PutR b0 lb 0 3 1 W [kv, vv] kv vv ks' (us'.map (Value.int .i64)) W' kv' vv') : OLM B b0 lb W' ks' us' kv' vv' := ⟨R.bk, R.kr, R.vr, R.ds⟩
end Go.Proofs.YtblkgicbimflhaaGreat
