import Derived.Test.YtblkgicbimflhaaGreatQAK
import Derived.Test.YtblkgicbimflhaaGreatQAU
import Derived.Test.YtblkgicbimflhaaGreatQAG
import Derived.Test.YtblkgicbimflhaaGreatQAD
import Derived.Test.YtblkgicbimflhaaGreatQAN
import Derived.Deep.RegionHeld3
import Derived.Test.YtblkgicbimflhaaGreatQAL
namespace Go.Proofs.YtblkgicbimflhaaGreat
open Go.ChangeShapes Go.WideShapes Go.ChangeAt Go.RowKit
set_option linter.unusedVariables false
set_option linter.unusedSimpArgs false
set_option maxRecDepth 100000
set_option maxHeartbeats 16000000
theorem int_tl {w : World} {b : Nat} {v : Value} {L : List Nat} {xs : List Value} (hf : Fill 1 CI 0 (nI L) (nI L).length xs w) (ho : w.ownsRow b 3 1 v L.length xs) : nP w (L, v) := by
 have ho' : w.ownsRow b 3 1 v (nI L).length xs := by rw [nI_len]; exact ho
 exact ⟨hf.own liesI (own_base0 ho') (Nat.le_refl _), fun g o n c hv hp => own_tag ho (by simp only at hv; rw [hv]; rfl)⟩
theorem infoIn : (Tryz.prog.info? 3).map (fun i => (i.zero, i.size, i.bytes)) = some (some (.int .i64 0), 1, 8) := by kernel_rfl
def SerHP (us : List Opn) (w : World) (e : Ending) (w' : World) : Prop := ∃ (hv lv : Value) (pl : List (List Nat × Value)), e = .returned (.tuple #[hv, lv]) /\ HsR w.heap.size w' hv (histF us us.length).1.hs /\ pl.map Prod.fst = (histF us us.length).2.2 /\ w'.ownsRow w.heap.size 32 1 lv pl.length (pl.map Prod.snd) /\ (∀ p ∈ pl, nP w' p) /\ Below w.heap.size w w'
theorem nP_nil (w : World) (a : Option Addr) (c : Nat) : nP w ([], .slice a 0 c) := ⟨⟨_, _, rfl, fun h => absurd h (by simp [nI])⟩, fun g o n c _ h => absurd h (by simp [nI])⟩
theorem histF_step {us : List Opn} {k : Nat} (hk : k < us.length) : histF us (k + 1) = stepH (histF us k).1 (histF us k).2.1 (histF us k).2.2 k us[k] := by
 show stepH _ _ _ k (us.getD k _) = _
 rw [List.getD_eq_getElem?_getD, List.getElem?_eq_getElem hk]
 rfl
theorem hist_bnd {us : List Opn} {k : Nat} (hk : k <= us.length) : BndN k (histF us k).1 := by
 rw [hist_run k hk]
 have := bnd_runs (us.take k) 0 bas0 bndN0
 rw [List.length_take, Nat.min_eq_left hk, Nat.zero_add] at this
 exact this
structure HL (us : List Opn) (k : Nat) (w wr : World) (x : Bas) (cv hv : Value) (vs : List (Value × Value × Value)) (po pl : List (List Nat × Value)) (lv : Value) : Prop where
 st : HSt w.heap.size (w.heap.size + 1 + 1) (w.heap.size + 1) w.heap.size w wr x cv hv vs po pl lv
 on : po.map Prod.fst = (histF us k).2.1
 li : pl.map Prod.fst = (histF us k).2.2
 sm : ∀ p ∈ po, p.1.length <= k
 xe : x = (histF us k).1
theorem HL.fin {us : List Opn} {w wr : World} {x : Bas} {cv hv : Value} {vs : List (Value × Value × Value)} {po pl : List (List Nat × Value)} {lv : Value} (h : HL us us.length w wr x cv hv vs po pl lv) : SerHP us w (.returned (.tuple #[hv, lv])) wr := by
 refine ⟨hv, lv, pl, rfl, ?_, h.li, h.st.lso, h.st.lsp, h.st.be⟩
 rw [<- h.xe]
 exact h.st.mem.hi
theorem map_fst_set (po : List (List Nat × Value)) (s : Nat) (L : List Nat) (v : Value) : (po.set s (L, v)).map Prod.fst = (po.map Prod.fst).set s L := by rw [List.map_set]
theorem HL.next {us : List Opn} {k : Nat} {w wr w2 : World} {x y : Bas} {cv hv cv2 hv2 : Value} {vs vs2 : List (Value × Value × Value)} {po pl po2 pl2 : List (List Nat × Value)} {lv lv2 : Value} (h : HL us k w wr x cv hv vs po pl lv) (hk : k < us.length) {o : Opn} (ho : us[k] = o) {s : Nat} (hs : o.ss = (s : Int)) (hs1 : 1 <= s) (hs4 : s <= 4) {L : List Nat} {pv : Value} (hL : po[s]? = some (L, pv)) (hy : y = (runF x o).1) (hst : HSt w.heap.size (w.heap.size + 1 + 1) (w.heap.size + 1) w.heap.size w w2 y cv2 hv2 vs2 po2 pl2 lv2)
 (hpo : po2.map Prod.fst = (if (y.tx.getD (s - 1) tx0).op then (po.map Prod.fst).set s (L ++ [k]) else (po.map Prod.fst).set s [])) (hpl : pl2.map Prod.fst = (if x.hs.length < y.hs.length then pl.map Prod.fst ++ [L ++ [k]] else pl.map Prod.fst)) (hsm : ∀ p ∈ po2, p.1.length <= k + 1) : HL us (k + 1) w w2 y cv2 hv2 vs2 po2 pl2 lv2 := by
 have hg : (histF us k).2.1.getD s [] = L := by
  rw [<- h.on, List.getD_eq_getElem?_getD, List.getElem?_map, hL]
  rfl
 have e := histF_step hk
 rw [ho] at e
 unfold stepH at e
 rw [if_neg (by omega)] at e
 have hst' : o.ss.toNat = s := by omega
 rw [hst', hg, <- h.xe, <- hy, <- h.on, <- h.li] at e
 exact ⟨hst, by rw [e]; exact hpo, by rw [e]; exact hpl, hsm, by rw [e]⟩
theorem set_small {po : List (List Nat × Value)} {s k : Nat} {L : List Nat} {v : Value} (h : ∀ p ∈ po, p.1.length <= k) (hL : L.length <= k + 1) : ∀ p ∈ po.set s (L, v), p.1.length <= k + 1 := fun p hp => by
 rcases List.mem_or_eq_of_mem_set hp with z | z
 .have := h p z; omega
 .rw [z]; exact hL
theorem HSt.clr1 {B gb bb gx : Nat} {w wr : World} {x : Bas} {cv hv : Value} {vs : List (Value × Value × Value)} {po pl : List (List Nat × Value)} {lv : Value} (h : HSt B gb bb gx w wr x cv hv vs po pl lv) (hB : B <= wr.heap.size) {s : Nat} (hs : s < 5) {o : Obj} {a : Option Addr} {c : Nat} : HSt B gb bb gx w ((wr.alloc o).setCell ⟨gb, s, none⟩ (.slice a 0 c)) x cv hv vs (po.set s ([], .slice a 0 c)) pl lv := (h.below hB (below_alloc _ _)).setOn hs (nP_nil _ _ _)
theorem HL.nextT {us : List Opn} {k : Nat} {w wr w2 : World} {x y : Bas} {cv hv cv2 hv2 : Value} {vs vs2 : List (Value × Value × Value)} {po pl pl2 : List (List Nat × Value)} {lv lv2 : Value} (h : HL us k w wr x cv hv vs po pl lv) (hk : k < us.length) {o : Opn} (ho : us[k] = o) {s : Nat} (hs : o.ss = (s : Int)) (hs1 : 1 <= s) (hs4 : s <= 4) {L : List Nat} {pv : Value} (hL : po[s]? = some (L, pv)) (hy : y = (runF x o).1) (hop : (y.tx.getD (s - 1) tx0).op = true) {v : Value} (hst : HSt w.heap.size (w.heap.size + 1 + 1) (w.heap.size + 1) w.heap.size w w2 y cv2 hv2 vs2 (po.set s (L ++ [k], v)) pl2 lv2)
 (hpl : pl2.map Prod.fst = (if x.hs.length < y.hs.length then pl.map Prod.fst ++ [L ++ [k]] else pl.map Prod.fst)) : HL us (k + 1) w w2 y cv2 hv2 vs2 (po.set s (L ++ [k], v)) pl2 lv2 := by
 have hl := h.sm _ (List.mem_of_getElem? hL)
 exact h.next hk ho hs hs1 hs4 hL hy hst (by rw [hop]; exact map_fst_set _ _ _ _) hpl (set_small h.sm (by simp only [List.length_append, List.length_cons, List.length_nil]; simp only at hl; omega))
theorem HL.nextF {us : List Opn} {k : Nat} {w wr w2 : World} {x y : Bas} {cv hv cv2 hv2 : Value} {vs vs2 : List (Value × Value × Value)} {po pl pl2 : List (List Nat × Value)} {lv lv2 : Value} (h : HL us k w wr x cv hv vs po pl lv) (hk : k < us.length) {o : Opn} (ho : us[k] = o) {s : Nat} (hs : o.ss = (s : Int)) (hs1 : 1 <= s) (hs4 : s <= 4) {L : List Nat} {pv : Value} (hL : po[s]? = some (L, pv)) (hy : y = (runF x o).1) (hop : (y.tx.getD (s - 1) tx0).op = false) {p : List Nat × Value} {v : Value} (hst : HSt w.heap.size (w.heap.size + 1 + 1) (w.heap.size + 1) w.heap.size w w2 y cv2 hv2 vs2 ((po.set s p).set s ([], v)) pl2 lv2)
 (hpl : pl2.map Prod.fst = (if x.hs.length < y.hs.length then pl.map Prod.fst ++ [L ++ [k]] else pl.map Prod.fst)) : HL us (k + 1) w w2 y cv2 hv2 vs2 ((po.set s p).set s ([], v)) pl2 lv2 := by
 refine h.next hk ho hs hs1 hs4 hL hy hst ?_ hpl ?_
 .rw [hop, List.set_set]; exact map_fst_set _ _ _ _
 .rw [List.set_set]; exact set_small h.sm (by simp)
theorem blk_grown_tag {w w' : World} {row : Option Nat} {b ty ty2 : Nat} {cs : List Value} (h : Blk w b cs) (ht : tag w b ty) (hg : w.grownBy w' row) (hr : ∀ g, row = some g -> tag w g ty2) (hne : ty ≠ ty2) : Blk w' b cs := h.chg (Chg.grown (T := fun t => t = ty2) hg (fun g h => ⟨_, rfl, hr g h⟩)) hne ht
theorem madeI {w5 W : World} (hb : Below w5.heap.size w5 W) : (W.alloc (.cells #[] 3)).ownsRow w5.heap.size 3 1 (.slice (some ⟨W.heap.size, 0, none⟩) 0 0) 0 [] := by simpa using World.ownsRow_made (base := w5.heap.size) (e := 3) (size := 1) W #[] 0 hb.size (by unfold maxLen; omega) (by simp)
theorem apI0 {ops : Array Oper} {o : Oper} {a : Act} {W : World} {K : Act -> World -> Prop} {Q : Exit -> Act -> World -> Prop} {E : Prop} (hg : o.guard = none) (s x : Operand) (hop : o.op = Op.call { callee := Callee.builtin Builtin.append, args := #[s, x], argTypes := #[32, 32] }) {b : Nat} (hs : a.eval s = .slice (some ⟨b, 0, none⟩) 0 0) {w5 : World} (hown : W.ownsRow w5.heap.size 3 1 (.slice (some ⟨b, 0, none⟩) 0 0) 0 []) {oa : Option Addr} {oc : Nat} {L : List Nat} (hx : a.eval x = .slice oa L.length oc) (hn : nP w5 (L, .slice oa L.length oc)) (hb : Below w5.heap.size w5 W) (hl : L.length <= 1000)
 (hK : ∀ news v' w', Hid (Fill 1 CI 0 (nI L) (nI L).length news w5) -> Hid (w'.ownsRow w5.heap.size 3 1 v' L.length news) -> Below w5.heap.size w5 w' -> W.grownBy w' (some b) -> K (a.put o.dst v') w') : if Region.wanted o (yielded ops a.tmps) = true then Oper.wp Tryz.prog o a W K Q else E := by
 obtain ⟨i0, hi0, hz0, hz1, hz2⟩ := info_parts infoIn
 have hnl : (nI L).length = L.length := nI_len L
 refine step_append_rs0 liesI oneI hg s x 32 hop w5.heap.size 3 i0 _ 8 Tryz.underlying32 hi0 hz0 hz1 hz2 rfl (by decide) (.slice (some ⟨b, 0, none⟩) 0 0) 0 [] hs hown oa oc (nI L) L.length hnl hx w5 (by rw [hnl]; exact hn.1) hb (by rw [hnl]; unfold maxLen; omega) (by rw [hnl]; omega) hb.size ?_
 intro news v1 w6 hf ho hgr _ _
 exact hK news v1 w6 hf (hid (by simpa [hnl] using ho)) (hb.grown hgr hb.size (fun q hq => (hown.lt q hq).1)) hgr
theorem apI1 {ops : Array Oper} {o : Oper} {a : Act} {W : World} {K : Act -> World -> Prop} {Q : Exit -> Act -> World -> Prop} {E : Prop} (hg : o.guard = none) (s x : Operand) (hop : o.op = Op.call { callee := Callee.builtin Builtin.append, args := #[s, x], argTypes := #[32, 32] }) {v1 : Value} (hs : a.eval s = v1) {w5 : World} {n : Nat} {xs : List Value} {k : Int} (hown : W.ownsRow w5.heap.size 3 1 v1 n xs) {b : Nat} (hx : a.eval x = .slice (some ⟨b, 0, none⟩) 1 1) (hc : ∀ j u, ([.int .i64 k] : List Value)[j]? = some u -> W.cell? ((⟨b, 0, none⟩ : Addr).add j) = some u) (hb : Below w5.heap.size w5 W) (hl : n <= 1000)
 (hK : ∀ v' w', w'.ownsRow w5.heap.size 3 1 v' (n + 1) (xs ++ [.int .i64 k]) -> Below w5.heap.size w5 w' -> K (a.put o.dst v') w') : if Region.wanted o (yielded ops a.tmps) = true then Oper.wp Tryz.prog o a W K Q else E := by
 obtain ⟨i0, hi0, hz0, hz1, hz2⟩ := info_parts infoIn
 refine step_append_own hg s x 32 hop w5.heap.size 3 i0 _ 1 8 Tryz.underlying32 hi0 hz0 hz1 hz2 rfl (by decide) v1 n xs hs hown ⟨b, 0, none⟩ 1 1 [.int .i64 k] hx rfl hc (by intro u hu; simp at hu; subst hu; rfl) (by unfold maxLen; omega) (by omega) hb.size ?_
 intro v2 w7 ho hgr _
 exact hK v2 w7 ho (hb.grown hgr hb.size (fun q hq => (hown.lt q hq).1))
theorem HSt.u3 {B gb bb gx : Nat} {w wr : World} {x : Bas} {cv hv : Value} {vs : List (Value × Value × Value)} {po pl : List (List Nat × Value)} {lv : Value} (h : HSt B gb bb gx w wr x cv hv vs po pl lv) {s : Nat} (hs : s < 5) (n : Nat) (o : Obj) : ∃ v, ((wr.drewN n).alloc o).cell? ⟨gb, s, none⟩ = some v /\ ((wr.drewN n).alloc o).frozen? ⟨gb, s, none⟩ = false := by
 obtain ⟨L, a, c, _, _, u1, u2⟩ := h.get hs
 have hl := tag_lt h.ont
 exact ⟨_, ((below_alloc (wr.drewN n) _).cell (p := ⟨gb, s, none⟩) (by simpa using hl)).trans (by simpa using u1), ((below_alloc (wr.drewN n) _).frozen (p := ⟨gb, s, none⟩) (by simpa using hl)).trans (by simpa using u2)⟩
theorem plT {a b : Nat} {pl : List (List Nat × Value)} {X : List Nat} {v : Value} (h : a < b) : (pl ++ [(X, v)]).map Prod.fst = (if a < b then pl.map Prod.fst ++ [X] else pl.map Prod.fst) := by rw [if_pos h]; simp
theorem plF {a b : Nat} {pl : List (List Nat × Value)} {X : List Nat} (h : ¬ a < b) : pl.map Prod.fst = (if a < b then pl.map Prod.fst ++ [X] else pl.map Prod.fst) := by rw [if_neg h]
theorem oneSl {a : Option Addr} {n c : Nat} : ∀ u ∈ ([.slice a n c] : List Value), u.oneCell' = true := fun u hu => by simp at hu; subst hu; rfl
theorem serHist_spec (us : List Opn) (hs : ∀ o ∈ us, SerO o) (hl : us.length <= 1000) (w : World) (a : Option Addr) (c : Nat) (hv : RS 7 CO 0 w (.slice a us.length c) us) :
 Calls Tryz.prog 7 #[.slice a us.length c] w fun e w' => SerHP us w e w' := by
 obtain ⟨j0, hj0, hy0, hy1, hy2⟩ := info_parts infoSl
 have H0 : Hid (HL us 0 w (hw0 w) bas0 (.slice none 0 0) (.slice none 0 0) [z3, z3, z3, z3] [zn, zn, zn, zn, zn] [] (.slice (some ⟨w.heap.size + 1 + 1 + 1, 0, none⟩) 0 0)) := hid ⟨hst0 w, rfl, rfl, fun p hp => by simp at hp; subst hp; simp [zn], rfl⟩
 obtain ⟨W1, hW1⟩ : ∃ z, z = hw0 w := ⟨_, rfl⟩
 rw [<- hW1] at H0
 unfold hw0 uw1 a24 b4 at hW1
 have HW := hid hW1
 have HS := hid hs
 clear hW1 hs
 obtain ⟨a', cap', hsl, hcells⟩ := hv
 simp only [Value.slice.injEq] at hsl
 obtain ⟨rfl, _, rfl⟩ := hsl
 have hmk := mk4
 unfold a24 at hmk
 have hmk5 := mkS5
 go_enter Tryz.func7, Tryz.ntmps7
 go_wp2
 rw [<- HW.out]
 clear HW hmk hmk5
 go_loopw [6, 17] (fun lv iv wr => ∃ (k : Nat) (x : Bas) (cv hv : Value) (vs : List (Value × Value × Value)) (po pl : List (List Nat × Value)) (la : Option Addr) (lc : Nat), k <= us.length /\ iv = .int .i64 k /\ lv = .slice la pl.length lc /\ pl.length <= k /\ Hid (HL us k w wr x cv hv vs po pl (.slice la pl.length lc))) (fun _ iv _ => us.length - (intOf iv).toNat)
 case atStart => exact ⟨0, _, _, _, _, _, [], _, 0, Nat.zero_le _, rfl, rfl, Nat.le_refl _, H0⟩
 case round =>
  clear H0
  obtain ⟨k, x, cv, hv, vs, po, pl, la, lc, hk, rfl, rfl, hpk, HH⟩ := hrel
  have hbel := HH.out.st.be
  have hbs := hbel.size
  obtain ⟨ha, hc, hhv⟩ : ∃ a c, hv = .slice a x.hs.length c := by obtain ⟨ps, _, ho, _⟩ := HH.out.st.mem.hi; exact formR ho
  subst hhv
  have b2 : wr.cell? ⟨w.heap.size + 1, 2, none⟩ = some (.slice ha x.hs.length hc) := (HH.out.st.mem.bs 2 (by simp)).1
  have hbbl : w.heap.size + 1 < wr.heap.size := tag_lt HH.out.st.mem.bt
  have hgbl : w.heap.size + 1 + 1 < wr.heap.size := tag_lt HH.out.st.ont
  by_cases hlt : k < us.length
  .have hlti : (k : Int) < us.length := by omega
   obtain ⟨g, o, rfl, _, hg, hgc⟩ := hcells (by omega)
   obtain ⟨cs, hC, hcell⟩ := hgc k hlt
   have hso := HS.out us[k] (List.getElem_mem hlt)
   clear hgc hcells HS
   unfold CO at hC
   subst hC
   obtain ⟨t, ht⟩ : ∃ t, us[k] = t := ⟨_, rfl⟩
   rw [ht] at hso hcell
   obtain ⟨kd, ss, tb, ky, vl, md, nm⟩ := t
   obtain ⟨_, ⟨s1, s4⟩, _⟩ := hso
   simp only at s1 s4
   obtain ⟨s, rfl⟩ : ∃ s : Nat, ss = s := ⟨ss.toNat, by omega⟩
   obtain ⟨i, hi⟩ : ∃ i : Nat, s = i + 1 := ⟨s - 1, by omega⟩
   have hi4 : i < 4 := by omega
   have hii : (i : Int) < 4 := by omega
   have hs5 : s < 5 := by omega
   have hs5i : (s : Int) < 5 := by omega
   have hs1 : ¬ (s : Int) < 1 := by omega
   have hs4 : ¬ (4 : Int) < s := by omega
   have hwr : IntKind.i64.wrap ((s : Int) - 1) = i := by simp only [IntKind.wrap_i64, wrap64]; omega
   have HI := hid hi
   obtain ⟨L, oa, oc, hpo, hnp, hcl, hfz⟩ := HH.out.st.get hs5
   have hLk : L.length <= k := HH.out.sm _ (List.mem_of_getElem? hpo)
   have HPO := hid hpo
   have HT := hid ht
   obtain ⟨w5, hw5⟩ : ∃ z, z = wr.alloc (.cells #[.int .i64 kd, .int .i64 (s : Int), .int .i64 tb, .int .i64 ky, .int .i64 vl, .int .i64 md, .string nm] 41) := ⟨_, rfl⟩
   have b5 : Below wr.heap.size wr w5 := by rw [hw5]; exact below_alloc _ _
   have hs5z : w5.heap.size = wr.heap.size + 1 := by rw [hw5]; simp
   have KO : Hid (Blk w5 wr.heap.size [.int .i64 kd, .int .i64 (s : Int), .int .i64 tb, .int .i64 ky, .int .i64 vl, .int .i64 md, .string nm]) := by rw [hw5]; exact blk_new wr _ _
   have KT5 : Hid (tag w5 wr.heap.size 41) := by rw [hw5]; exact tag_new wr [.int .i64 kd, .int .i64 (s : Int), .int .i64 tb, .int .i64 ky, .int .i64 vl, .int .i64 md, .string nm] _
   have H5 := hid (HH.out.st.below hbs b5)
   have HN5 := hid (hnp.below b5)
   have HCL := hid (⟨(b5.cell (p := ⟨w.heap.size + 1 + 1, s, none⟩) hgbl).trans hcl, (b5.frozen (p := ⟨w.heap.size + 1 + 1, s, none⟩) hgbl).trans hfz⟩ : w5.cell? ⟨w.heap.size + 1 + 1, s, none⟩ = some (.slice oa L.length oc) /\ w5.frozen? ⟨w.heap.size + 1 + 1, s, none⟩ = false)
   have HW5 := hid hw5
   have c0 : wr.cell? ⟨g, o + k * 7, none⟩ = some (.int .i64 kd) := ct hbel hg (hcell 0 (by omega))
   have c1 : wr.cell? ⟨g, o + k * 7 + 1, none⟩ = some (.int .i64 s) := ct hbel hg (hcell 1 (by omega))
   have c2 : wr.cell? ⟨g, o + k * 7 + 2, none⟩ = some (.int .i64 tb) := ct hbel hg (hcell 2 (by omega))
   have c3 : wr.cell? ⟨g, o + k * 7 + 3, none⟩ = some (.int .i64 ky) := ct hbel hg (hcell 3 (by omega))
   have c4 : wr.cell? ⟨g, o + k * 7 + 4, none⟩ = some (.int .i64 vl) := ct hbel hg (hcell 4 (by omega))
   have c5 : wr.cell? ⟨g, o + k * 7 + 5, none⟩ = some (.int .i64 md) := ct hbel hg (hcell 5 (by omega))
   have c6 : wr.cell? ⟨g, o + k * 7 + 6, none⟩ = some (.string nm) := ct hbel hg (hcell 6 (by omega))
   clear hcell hi hpo ht hnp hcl hfz b5 hw5
   go_upto_region 9 with (fail)
   rw [<- HW5.out]
   clear HW5 c0 c1 c2 c3 c4 c5 c6 b2
   have d1 : w5.cell? ⟨wr.heap.size, 1, none⟩ = some (.int .i64 s) := (KO.out 1 (by simp)).1
   have d2 := HCL.out.1
   have hb5 : wr.heap.size < w5.heap.size := by omega
   have hg5 : w.heap.size + 1 + 1 < w5.heap.size := by omega
   have HFIN : Hid (∀ (w7 : World) (v2 : Value) (news : List Value), Below w5.heap.size w5 w7 -> Fill 1 CI 0 (nI L) (nI L).length news w5 -> w7.ownsRow w5.heap.size 3 1 v2 (L.length + 1) (news ++ [.int .i64 (k : Int)]) -> HSt w.heap.size (w.heap.size + 1 + 1) (w.heap.size + 1) w.heap.size w (w7.setCell ⟨w.heap.size + 1 + 1, s, none⟩ v2) x cv (.slice ha x.hs.length hc) vs (po.set s (L ++ [k], v2)) pl (.slice la pl.length lc) /\ Blk (w7.setCell ⟨w.heap.size + 1 + 1, s, none⟩ v2) wr.heap.size [.int .i64 kd, .int .i64 (s : Int), .int .i64 tb, .int .i64 ky, .int .i64 vl, .int .i64 md, .string nm] /\ tag (w7.setCell ⟨w.heap.size + 1 + 1, s, none⟩ v2) wr.heap.size 41) := hid (fun w7 v2 news bw7 hf ho => by
    have hf2 := (hf.below liesI bw7).append (fill_one (B := 0) (w := w7) liesI (t := (k : Int)) rfl)
    have e : nI L ++ [(k : Int)] = nI (L ++ [k]) := by unfold nI; simp
    rw [e] at hf2
    have hnp : nP w7 (L ++ [k], v2) := int_tl (by rw [nI_len] at hf2 ⊢; simpa [nI] using hf2) (by simpa using ho)
    exact ⟨(H5.out.below (by omega) bw7).setOn hs5 hnp, (KO.out.below bw7 (by omega)).other (by omega), tag_set v2 (tag_below KT5.out bw7)⟩)
   have hL1 : L.length <= 1000 := by omega
   have n5a : w5.frozen? ⟨w.heap.size + 1 + 1, s, none⟩ = false := HCL.out.2
   have KP : ∀ W, Below w5.heap.size w5 W -> (W.cell? ⟨wr.heap.size, 1, none⟩ = some (.int .i64 (s : Int)) /\ W.cell? ⟨w.heap.size + 1 + 1, s, none⟩ = some (.slice oa L.length oc)) /\ W.frozen? ⟨w.heap.size + 1 + 1, s, none⟩ = false := fun W b => ⟨⟨(b.cell (p := ⟨wr.heap.size, 1, none⟩) hb5).trans d1, (b.cell (p := ⟨w.heap.size + 1 + 1, s, none⟩) hg5).trans d2⟩, (b.frozen (p := ⟨w.heap.size + 1 + 1, s, none⟩) hg5).trans n5a⟩
   clear H5 KO KT5 hs5z hbel HCL
   go_cut [] (fun wx => ∃ (a2 : Option Addr) (c2 : Nat), Hid (HSt w.heap.size (w.heap.size + 1 + 1) (w.heap.size + 1) w.heap.size w wx x cv (.slice ha x.hs.length hc) vs (po.set s (L ++ [k], .slice a2 (L.length + 1) c2)) pl (.slice la pl.length lc) /\ Blk wx wr.heap.size [.int .i64 kd, .int .i64 (s : Int), .int .i64 tb, .int .i64 ky, .int .i64 vl, .int .i64 md, .string nm] /\ tag wx wr.heap.size 41))
   case first =>
    refine wp_region_till_drew (S := (fun W => W.cell? ⟨wr.heap.size, 1, none⟩ = some (.int .i64 (s : Int)) /\ W.cell? ⟨w.heap.size + 1 + 1, s, none⟩ = some (.slice oa L.length oc))) (late := [13, 14]) (by kernel_rfl) (by go_keep) (fun hHeld => ?_)
    refine tT 0 rfl hHeld ?_
    try simp only [Act.put, q1, q2, q3]
    refine tT 1 rfl hHeld ?_
    try simp only [Act.put, q1, q2, q3]
    refine till_ld (i := 2) (v := ?_) rfl (Or.inl ⟨by rfl, ?_⟩) hHeld ?_
    rotate_left
    .intro w hSw
     try dsimp only at hSw
     go_simp
     try with_reducible rfl
    try simp only [Act.put, q1, q2, q3]
    refine tT 4 rfl hHeld ?_
    try simp only [Act.put, q1, q2, q3]
    refine tT 5 rfl hHeld ?_
    try simp only [Act.put, q1, q2, q3]
    refine till_ld (i := 6) (v := ?_) rfl (Or.inl ⟨by rfl, ?_⟩) hHeld ?_
    rotate_left
    .intro w hSw
     try dsimp only at hSw
     go_simp
     try with_reducible rfl
    try simp only [Act.put, q1, q2, q3]
    refine tT 7 rfl hHeld ?_
    try simp only [Act.put, q1, q2, q3]
    refine till_ld (i := 8) (v := ?_) rfl (Or.inl ⟨by rfl, ?_⟩) hHeld ?_
    rotate_left
    .intro w hSw
     try dsimp only at hSw
     go_simp
     try with_reducible rfl
    try simp only [Act.put, q1, q2, q3]
    refine tT 10 rfl hHeld ?_
    try simp only [Act.put, q1, q2, q3]
    refine till_ready (rs := [3, 11]) (by kernel_rfl) (by simp) ?_
    refine TillAll.cons rfl (fun K hK => ?_) ?_
    .go_simp
     refine hK _ _ ⟨?_, ?_⟩
     .go_keep
     clear hK K
     try simp only [Act.put, q1, q2, q3]
     refine till_ready (rs := [9, 11]) (by kernel_rfl) (by simp) ?_
     refine TillAll.cons rfl (fun K hK => ?_) ?_
     .refine apI0 rfl (.tmp 38) (.tmp 43) rfl rfl ?_ rfl HN5.out ?_ hL1 ?_
      .simpa using (madeI (Below.refl _ w5)).drew
      .exact bl
      intro news v1 w6 HFW HOW6 bw6 hgrow1
      skip
      clear hgrow1
      refine hK _ _ ⟨(KP _ bw6).1, ?_⟩
      clear hK K
      try simp only [Act.put, q1, q2, q3]
      refine till_ready (rs := [11]) (by kernel_rfl) (by simp) ?_
      refine TillAll.cons rfl (fun K hK => ?_) ?_
      .go_simp
       refine hK _ _ ⟨?_, ?_⟩
       .go_keep
       clear hK K
       try simp only [Act.put, q1, q2, q3]
       refine till_ready (rs := [12]) (by kernel_rfl) (by simp) ?_
       refine TillAll.cons rfl (fun K hK => ?_) ?_
       .refine apI1 rfl (.tmp 44) (.tmp 46) rfl rfl (k := (k : Int)) (HOW6.out.alloc _) rfl ?_ (bw6.alloc bw6.size _) hL1 ?_
        .exact (blk_new w6 [.int .i64 (k : Int)] 3).cells
        intro v2 w7 hown2 bw7
        have HFI := hid (HFIN.out w7 v2 news bw7 HFW.out hown2)
        obtain ⟨a2, cc2, hv2⟩ := formR hown2
        subst hv2
        obtain ⟨⟨m1, m2⟩, mf⟩ := KP _ bw7
        clear hown2 bw7 HOW6 HFW bw6
        refine hK _ _ ⟨⟨m1, m2⟩, ?_⟩
        clear hK K
        try simp only [Act.put, q1, q2, q3]
        refine rL 13 rfl fun K hK => ?_
        go_simp
        refine hK _ _ ?_
        clear hK K
        try simp only [Act.put, q1, q2, q3]
        refine rL 14 rfl fun K hK => ?_
        go_simp
        refine hK _ _ ?_
        clear hK K
        try simp only [Act.put, q1, q2, q3]
        refine till_done (by kernel_rfl) ?_ _
        try simp only [Nat.zero_add]
        go_wp2
        go_meet
        case rel => exact ⟨_, _, HFI⟩
       exact TillAll.nil
      exact TillAll.nil
     refine TillAll.cons rfl (fun K hK => ?_) ?_
     .go_simp
      refine hK _ _ ⟨?_, ?_⟩
      .go_keep
      clear hK K
      try simp only [Act.put, q1, q2, q3]
      refine till_ready (rs := [9]) (by kernel_rfl) (by simp) ?_
      refine TillAll.cons rfl (fun K hK => ?_) ?_
      .refine apI0 rfl (.tmp 38) (.tmp 43) rfl rfl ?_ rfl HN5.out ?_ hL1 ?_
       .simpa using ((madeI (Below.refl _ w5)).alloc (.cells #[.int .i64 (k : Int)] 3)).drew
       .exact bl
       intro news v1 w6 HFW HOW6 bw6 hgrow1
       have KT := hid (Blk.cells (KT2B (cs := [.int .i64 (k : Int)]) hgrow1 (by first | (simp [Value.ownBlock]; done) | (simp [Value.ownBlock]; omega))))
       clear hgrow1
       refine hK _ _ ⟨(KP _ bw6).1, ?_⟩
       clear hK K
       try simp only [Act.put, q1, q2, q3]
       refine till_ready (rs := [12]) (by kernel_rfl) (by simp) ?_
       refine TillAll.cons rfl (fun K hK => ?_) ?_
       .refine apI1 rfl (.tmp 44) (.tmp 46) rfl rfl (k := (k : Int)) HOW6.out rfl ?_ bw6 hL1 ?_
        .with_reducible exact KT.out
        intro v2 w7 hown2 bw7
        have HFI := hid (HFIN.out w7 v2 news bw7 HFW.out hown2)
        obtain ⟨a2, cc2, hv2⟩ := formR hown2
        subst hv2
        obtain ⟨⟨m1, m2⟩, mf⟩ := KP _ bw7
        clear hown2 bw7 HOW6 HFW bw6
        refine hK _ _ ⟨⟨m1, m2⟩, ?_⟩
        clear hK K
        try simp only [Act.put, q1, q2, q3]
        refine rL 13 rfl fun K hK => ?_
        go_simp
        refine hK _ _ ?_
        clear hK K
        try simp only [Act.put, q1, q2, q3]
        refine rL 14 rfl fun K hK => ?_
        go_simp
        refine hK _ _ ?_
        clear hK K
        try simp only [Act.put, q1, q2, q3]
        refine till_done (by kernel_rfl) ?_ _
        try simp only [Nat.zero_add]
        go_wp2
        go_meet
        case rel => exact ⟨_, _, HFI⟩
       exact TillAll.nil
      exact TillAll.nil
     exact TillAll.nil
    refine TillAll.cons rfl (fun K hK => ?_) ?_
    .go_simp
     refine hK _ _ ⟨?_, ?_⟩
     .go_keep
     clear hK K
     try simp only [Act.put, q1, q2, q3]
     refine till_ready (rs := [3]) (by kernel_rfl) (by simp) ?_
     refine TillAll.cons rfl (fun K hK => ?_) ?_
     .go_simp
      refine hK _ _ ⟨?_, ?_⟩
      .go_keep
      clear hK K
      try simp only [Act.put, q1, q2, q3]
      refine till_ready (rs := [9]) (by kernel_rfl) (by simp) ?_
      refine TillAll.cons rfl (fun K hK => ?_) ?_
      .refine apI0 rfl (.tmp 38) (.tmp 43) rfl rfl ?_ rfl HN5.out ?_ hL1 ?_
       .simpa using (madeI (below_alloc w5 (.cells #[.int .i64 (k : Int)] 3))).drew
       .exact bl
       intro news v1 w6 HFW HOW6 bw6 hgrow1
       have KT := hid (Blk.cells (KT2C (cs := [.int .i64 (k : Int)]) hgrow1 (by first | (simp [Value.ownBlock]; done) | (simp [Value.ownBlock]; omega))))
       clear hgrow1
       refine hK _ _ ⟨(KP _ bw6).1, ?_⟩
       clear hK K
       try simp only [Act.put, q1, q2, q3]
       refine till_ready (rs := [12]) (by kernel_rfl) (by simp) ?_
       refine TillAll.cons rfl (fun K hK => ?_) ?_
       .refine apI1 rfl (.tmp 44) (.tmp 46) rfl rfl (k := (k : Int)) HOW6.out rfl ?_ bw6 hL1 ?_
        .with_reducible exact KT.out
        intro v2 w7 hown2 bw7
        have HFI := hid (HFIN.out w7 v2 news bw7 HFW.out hown2)
        obtain ⟨a2, cc2, hv2⟩ := formR hown2
        subst hv2
        obtain ⟨⟨m1, m2⟩, mf⟩ := KP _ bw7
        clear hown2 bw7 HOW6 HFW bw6
        refine hK _ _ ⟨⟨m1, m2⟩, ?_⟩
        clear hK K
        try simp only [Act.put, q1, q2, q3]
        refine rL 13 rfl fun K hK => ?_
        go_simp
        refine hK _ _ ?_
        clear hK K
        try simp only [Act.put, q1, q2, q3]
        refine rL 14 rfl fun K hK => ?_
        go_simp
        refine hK _ _ ?_
        clear hK K
        try simp only [Act.put, q1, q2, q3]
        refine till_done (by kernel_rfl) ?_ _
        try simp only [Nat.zero_add]
        go_wp2
        go_meet
        case rel => exact ⟨_, _, HFI⟩
       exact TillAll.nil
      exact TillAll.nil
     exact TillAll.nil
    exact TillAll.nil
   case rest =>
    obtain ⟨a2, c2, HC9⟩ := hcut
    have hbn : BndN k x := by rw [HH.out.xe]; exact hist_bnd hk
    have hru := run_spec w.heap.size (w.heap.size + 1) w.heap.size x ⟨kd, s, tb, ky, vl, md, nm⟩ cv (.slice ha x.hs.length hc) vs wc HC9.out.1.mem (hbn.bnd (by omega)) HC9.out.1.be.size
    unfold RunP at hru
    obtain ⟨ry, hry⟩ : ∃ z, runF x ⟨kd, s, tb, ky, vl, md, nm⟩ = z := ⟨_, rfl⟩
    rw [hry] at hru
    obtain ⟨y, ob⟩ := ry
    have HRY : Hid ((runF x ⟨kd, s, tb, ky, vl, md, nm⟩).1 = y) := hid (by rw [hry])
    simp only at hru
    have hz5 : wr.heap.size < wc.heap.size := tag_lt HC9.out.2.2
    obtain ⟨p0, p1, p2, p3, p4, p5, p6⟩ := kc6 HC9.out.2.1
    clear hry hbn d1 d2 n5a HFIN KP HN5
    go_wp2_with (go_at_call 21; fail)
    refine hru.mono ?_
    rintro e w9 ⟨cv9, hv9, vs9, pv, rfl, hG9, hM9, hK9, hB9⟩
    clear hru p0 p1 p2 p3 p4 p5 p6
    have H9 := hid (HC9.out.1.run hM9 hK9 hB9)
    have K9 := hid (HC9.out.2.1.keep hK9 (by unfold Im; decide) HC9.out.2.2)
    have KT9 := hid (hK9.tagk (by unfold Im; decide) HC9.out.2.2)
    have hz9 : wr.heap.size < w9.heap.size := tag_lt KT9.out
    obtain ⟨qa, qc, hpv⟩ := formR hG9
    subst hpv
    obtain ⟨ha9, hc9, hhv9⟩ : ∃ a c, hv9 = .slice a y.hs.length c := by obtain ⟨ps, _, ho, _⟩ := hM9.hi; exact formR ho
    subst hhv9
    obtain ⟨t9, v9, htx, _, _, hcell9⟩ := hM9.at hi4
    obtain ⟨-, -, e2, e3⟩ := kc3 hM9.bs
    have e0 : w9.cell? ⟨w.heap.size, i * 6, none⟩ = some (.bool t9.op) := (hcell9 0 (by omega)).1
    have q1 : w9.cell? ⟨wr.heap.size, 1, none⟩ = some (.int .i64 (s : Int)) := (K9.out 1 (by simp)).1
    obtain ⟨L9, a9, c9, hp9, hn9, hcl9, _⟩ := H9.out.get hs5
    have hsp : (po.set s (L ++ [k], Value.slice a2 (L.length + 1) c2))[s]? = some (L ++ [k], Value.slice a2 (L.length + 1) c2) := List.getElem?_set_self (List.getElem?_eq_some_iff.1 HPO.out).1
    rw [hsp] at hp9
    injection hp9 with hp9
    injection hp9 with z1 z2
    subst z1
    rw [<- z2] at hcl9 hn9
    have q2 : w9.cell? ⟨w.heap.size + 1 + 1, s, none⟩ = some (.slice a2 (L.length + 1) c2) := hcl9
    have N9 : Hid (nP w9 (L ++ [k], .slice a2 (L.length + 1) c2)) := hid hn9
    have HTX := hid htx
    have HTG : Hid (y.tx.getD (s - 1) tx0 = t9) := hid (by rw [HI.out, List.getD_eq_getElem?_getD, show i + 1 - 1 = i by omega, htx]; rfl)
    clear hsp z2 hcl9 hn9 hM9 hK9 hB9 hG9 hcell9 htx HC9
    cases hop : t9.op
    .have HOP := hid hop
     rw [hop] at e0
     clear hop
     by_cases hgt : x.hs.length < y.hs.length
     .have hgti : (x.hs.length : Int) < y.hs.length := by omega
      have HA := hid (H9.out.below H9.out.be.size (below_alloc w9 (.cells #[.slice a2 (L.length + 1) c2] 32)))
      have KA := hid (K9.out.below (below_alloc w9 (.cells #[.slice a2 (L.length + 1) c2] 32)) hz9)
      have NA := hid (N9.out.below (below_alloc w9 (.cells #[.slice a2 (L.length + 1) c2] 32)))
      have HCN := hid (cells_new w9 [.slice a2 (L.length + 1) c2] 32 _ rfl)
      have hbA : w.heap.size <= (w9.alloc (.cells #[.slice a2 (L.length + 1) c2] 32)).heap.size := HA.out.be.size
      have hzA : wr.heap.size < (w9.alloc (.cells #[.slice a2 (L.length + 1) c2] 32)).heap.size := by simp; omega
      clear H9 K9 N9
      have KTA := hid (tag_below KT9.out (below_alloc w9 (.cells #[.slice a2 (L.length + 1) c2] 32)))
      go_wp2_with (at_builtin; go_loud (refine wpList_append_own_at _ rfl (.tmp 59) (.tmp 65) 26 rfl w.heap.size 32 j0 _ 1 24 Tryz.underlying26 hj0 hy0 hy1 hy2 rfl (by decide) (.slice la pl.length lc) pl.length (pl.map Prod.snd) rfl HA.out.lso ⟨w9.heap.size, 0, none⟩ 1 1 [.slice a2 (L.length + 1) c2] rfl rfl HCN.out oneSl (by unfold maxLen; omega) (by omega) hbA ?_; intro v' w' hown hgrow _ hat; obtain ⟨na, nc, hvn⟩ := formR hown; subst hvn; have HP := hid (HA.out.push (L := L ++ [k]) hgrow hat hown NA.out hbA); have KP := hid (blk_grown_tag KA.out KTA.out hgrow (fun g e => own_tag HA.out.lso e) (by decide)); clear hown hgrow hat HA KA NA HCN KTA))
      obtain ⟨t9', v9', htx', _, _, hcell9'⟩ := HP.out.mem.at hi4
      have htt : t9' = t9 := by have z := HTX.out; rw [htx'] at z; injection z
      rw [htt] at hcell9'
      clear htt htx' e3 e0 q1 e2 q2
      have e3 : w'.cell? ⟨w.heap.size + 1, 3, none⟩ = some (.slice (some ⟨w.heap.size, 0, none⟩) 4 4) := (HP.out.mem.bs 3 (by simp)).1
      have e0 : w'.cell? ⟨w.heap.size, i * 6, none⟩ = some (.bool false) := (hcell9' 0 (by omega)).1.trans (by show some (Value.bool t9.op) = _; rw [HOP.out])
      have q1 : w'.cell? ⟨wr.heap.size, 1, none⟩ = some (.int .i64 (s : Int)) := (KP.out 1 (by simp)).1
      clear hcell9'
      go_quiet (fail)
      obtain ⟨v7, u3, u4⟩ := HP.out.u3 hs5 nq (.cells #[] 3)
      have hg9 := tag_lt HP.out.ont
      have HOQ : Hid ((y.tx.getD (s - 1) tx0).op = false) := hid (by rw [HTG.out]; exact HOP.out)
      have hBP := HP.out.be.size
      go_wp2
      go_roundw
      case rel =>
       refine ⟨k + 1, y, cv9, .slice ha9 y.hs.length hc9, vs9, ((po.set s (L ++ [k], Value.slice a2 (L.length + 1) c2)).set s ([], Value.slice (some ⟨w'.heap.size, 0, none⟩) 0 0)), (pl ++ [(L ++ [k], Value.slice a2 (L.length + 1) c2)]), na, nc, by omega, by go_num, by simp, by simp; omega, ?_⟩
       rw [show (pl ++ [(L ++ [k], Value.slice a2 (L.length + 1) c2)]).length = pl.length + 1 by simp]
       exact hid (HH.out.nextF hlt HT.out rfl (by omega) (by omega) HPO.out HRY.out.symm HOQ.out ((HP.out.below hBP (below_drewNt _ nq)).clr1 hBP hs5) (plT hgt))
      case measure => simp [intOf]; omega
     .have hgti : ¬ (x.hs.length : Int) < y.hs.length := by omega
      have HP := hid H9.out
      have KP := hid K9.out
      clear H9 K9 N9
      go_wp2
      clear e2 q2
      go_quiet (fail)
      obtain ⟨v7, u3, u4⟩ := HP.out.u3 hs5 nq (.cells #[] 3)
      have hg9 := tag_lt HP.out.ont
      have HOQ : Hid ((y.tx.getD (s - 1) tx0).op = false) := hid (by rw [HTG.out]; exact HOP.out)
      have hBP := HP.out.be.size
      go_wp2
      go_roundw
      case rel =>
       refine ⟨k + 1, y, cv9, .slice ha9 y.hs.length hc9, vs9, ((po.set s (L ++ [k], Value.slice a2 (L.length + 1) c2)).set s ([], Value.slice (some ⟨w9.heap.size, 0, none⟩) 0 0)), pl, la, lc, by omega, by go_num, rfl, by omega, ?_⟩
       exact hid (HH.out.nextF hlt HT.out rfl (by omega) (by omega) HPO.out HRY.out.symm HOQ.out ((HP.out.below hBP (below_drewNt _ nq)).clr1 hBP hs5) (plF hgt))
      case measure => simp [intOf]; omega
    .have HOP := hid hop
     rw [hop] at e0
     clear hop
     by_cases hgt : x.hs.length < y.hs.length
     .have hgti : (x.hs.length : Int) < y.hs.length := by omega
      have HA := hid (H9.out.below H9.out.be.size (below_alloc w9 (.cells #[.slice a2 (L.length + 1) c2] 32)))
      have KA := hid (K9.out.below (below_alloc w9 (.cells #[.slice a2 (L.length + 1) c2] 32)) hz9)
      have NA := hid (N9.out.below (below_alloc w9 (.cells #[.slice a2 (L.length + 1) c2] 32)))
      have HCN := hid (cells_new w9 [.slice a2 (L.length + 1) c2] 32 _ rfl)
      have hbA : w.heap.size <= (w9.alloc (.cells #[.slice a2 (L.length + 1) c2] 32)).heap.size := HA.out.be.size
      have hzA : wr.heap.size < (w9.alloc (.cells #[.slice a2 (L.length + 1) c2] 32)).heap.size := by simp; omega
      clear H9 K9 N9
      have KTA := hid (tag_below KT9.out (below_alloc w9 (.cells #[.slice a2 (L.length + 1) c2] 32)))
      go_wp2_with (at_builtin; go_loud (refine wpList_append_own_at _ rfl (.tmp 59) (.tmp 65) 26 rfl w.heap.size 32 j0 _ 1 24 Tryz.underlying26 hj0 hy0 hy1 hy2 rfl (by decide) (.slice la pl.length lc) pl.length (pl.map Prod.snd) rfl HA.out.lso ⟨w9.heap.size, 0, none⟩ 1 1 [.slice a2 (L.length + 1) c2] rfl rfl HCN.out oneSl (by unfold maxLen; omega) (by omega) hbA ?_; intro v' w' hown hgrow _ hat; obtain ⟨na, nc, hvn⟩ := formR hown; subst hvn; have HP := hid (HA.out.push (L := L ++ [k]) hgrow hat hown NA.out hbA); have KP := hid (blk_grown_tag KA.out KTA.out hgrow (fun g e => own_tag HA.out.lso e) (by decide)); clear hown hgrow hat HA KA NA HCN KTA))
      obtain ⟨t9', v9', htx', _, _, hcell9'⟩ := HP.out.mem.at hi4
      have htt : t9' = t9 := by have z := HTX.out; rw [htx'] at z; injection z
      rw [htt] at hcell9'
      clear htt htx' e3 e0 q1 e2 q2
      have e3 : w'.cell? ⟨w.heap.size + 1, 3, none⟩ = some (.slice (some ⟨w.heap.size, 0, none⟩) 4 4) := (HP.out.mem.bs 3 (by simp)).1
      have e0 : w'.cell? ⟨w.heap.size, i * 6, none⟩ = some (.bool true) := (hcell9' 0 (by omega)).1.trans (by show some (Value.bool t9.op) = _; rw [HOP.out])
      have q1 : w'.cell? ⟨wr.heap.size, 1, none⟩ = some (.int .i64 (s : Int)) := (KP.out 1 (by simp)).1
      clear hcell9'
      go_quiet (fail)
      have HOQ : Hid ((y.tx.getD (s - 1) tx0).op = true) := hid (by rw [HTG.out]; exact HOP.out)
      have hBP := HP.out.be.size
      go_wp2
      go_roundw
      case rel =>
       refine ⟨k + 1, y, cv9, .slice ha9 y.hs.length hc9, vs9, (po.set s (L ++ [k], Value.slice a2 (L.length + 1) c2)), (pl ++ [(L ++ [k], Value.slice a2 (L.length + 1) c2)]), na, nc, by omega, by go_num, by simp, by simp; omega, ?_⟩
       rw [show (pl ++ [(L ++ [k], Value.slice a2 (L.length + 1) c2)]).length = pl.length + 1 by simp]
       exact hid (HH.out.nextT hlt HT.out rfl (by omega) (by omega) HPO.out HRY.out.symm HOQ.out (HP.out.below hBP (below_drewNt _ _)) (plT hgt))
      case measure => simp [intOf]; omega
     .have hgti : ¬ (x.hs.length : Int) < y.hs.length := by omega
      have HP := hid H9.out
      have KP := hid K9.out
      clear H9 K9 N9
      go_wp2
      clear e2 q2
      go_quiet (fail)
      have HOQ : Hid ((y.tx.getD (s - 1) tx0).op = true) := hid (by rw [HTG.out]; exact HOP.out)
      have hBP := HP.out.be.size
      go_wp2
      go_roundw
      case rel =>
       refine ⟨k + 1, y, cv9, .slice ha9 y.hs.length hc9, vs9, (po.set s (L ++ [k], Value.slice a2 (L.length + 1) c2)), pl, la, lc, by omega, by go_num, rfl, by omega, ?_⟩
       exact hid (HH.out.nextT hlt HT.out rfl (by omega) (by omega) HPO.out HRY.out.symm HOQ.out (HP.out.below hBP (below_drewNt _ _)) (plF hgt))
      case measure => simp [intOf]; omega
  .have hkn : k = us.length := by omega
   subst hkn
   have hlti : ¬ (us.length : Int) < us.length := by omega
   have HF := hid HH.out.fin
   clear HH hcells HS
   go_wp2
   go_ret2
   exact HF.out
def DrG (bs : List Int) (w : World) (c : Nat) (A : Int) (e : Ending) (w' : World) : Prop := ∃ (v : Value), e = .returned v /\ w'.ownsRow w.heap.size 41 7 v (drawF bs).length ((drawF bs).flatMap opK) /\ (drawF bs).length <= 141 /\ Upd c w w'
theorem drawOps_fn (bs : List Int) (c : Nat) (A : Int) (w : World) (h : CurF bs (0, 0) w c A) (hA : A <= 1000000) :
 Calls Tryz.prog 20 #[.pointer (some ⟨c, 0, none⟩), .int .i64 2] w fun e w' => DrG bs w c A e w' := by
 obtain ⟨j0, hj, hy0, hy1, hy2⟩ := info_parts infoOp
 have hcl := h.lt
 obtain ⟨w0, hw0⟩ : ∃ z, z = (w.alloc (.cells #[] 41)).alloc (.cells #[.bool false, .bool false, .bool false, .bool false, .bool false] 4) := ⟨_, rfl⟩
 have b0 : Below w.heap.size w w0 := by rw [hw0]; exact (below_alloc _ _).trans ((below_alloc _ _).mono (by simp))
 have D0 : DG bs (0, 0) [false, false, false, false, false] w c A (w.heap.size + 1) w0 [] (.slice (some ⟨w.heap.size, 0, none⟩) 0 0) := by
  refine ⟨?_, ⟨rfl, ?_⟩, h.same (fun k hk => b0.block k (by omega)) (Nat.lt_of_lt_of_le hcl b0.size), Upd.of_below b0, ⟨Nat.le_succ _, by rw [hw0]; simp⟩, fun e => by simp [Value.ownBlock] at e⟩
  .have := World.ownsRow_made (base := w.heap.size) (e := 41) (size := 7) w #[] 0 (by simp) (by unfold maxLen; omega) (by simp)
   rw [hw0]
   exact own_below (by simpa using this) (below_alloc _ _)
  .have := blk_new (w.alloc (.cells #[] 41)) [.bool false, .bool false, .bool false, .bool false, .bool false] 4
   rw [show (w.alloc (.cells #[] 41)).heap.size = w.heap.size + 1 by simp] at this
   rw [hw0]; exact this
 have HP := hid (pick_fn bs (0, 0) c A 60 w0 D0.cur (by omega) (by omega) (by omega))
 have HD0 := hid D0
 have hmk := mk5
 clear D0 h
 rw [hw0] at HP
 go_enter Tryz.func20, Tryz.ntmps20
 go_wp2_with (go_at_call 28; fail)
 rw [<- hw0] at HP ⊢
 clear hw0 b0 hmk
 refine HP.out.mono ?_
 rintro e w1 ⟨r1, z1, a1, b1, q1, rfl, hc1, hu1⟩
 have HD1 := hid (HD0.out.draw hcl hc1 hu1)
 have HDF : Hid (∀ st, loopF bs (10 + r1).toNat ([], [false, false, false, false, false], z1) = st -> drawF bs = fin3 st.1 3) := hid (fun st h => by unfold drawF; rw [q1.out]; simp only; rw [h])
 obtain ⟨RS, hRS⟩ : ∃ st, loopF bs (10 + r1).toNat ([], [false, false, false, false, false], z1) = st := ⟨_, rfl⟩
 have HRS := hid hRS
 have HDR := hid (HDF.out RS hRS)
 clear hc1 hu1 HP HD0 HDF hRS
 go_wp2
 go_loopw [5, 7] (fun lv nv wr => ∃ (k : Nat) (us : List Opn) (op : List Bool) (z : Int × Int) (pa : Option Addr) (pc : Nat), k <= 69 /\ nv = .int .i64 k /\ lv = .slice pa us.length pc /\ us.length + 2 * k <= 138 /\ Hid (loopF bs k (us, op, z) = RS) /\ Hid (DG bs z op w c (A + 2 + 28 * (69 - k)) (w.heap.size + 1) wr us (.slice pa us.length pc))) (fun _ nv _ => (intOf nv).toNat)
 case atStart => exact ⟨(10 + r1).toNat, [], [false, false, false, false, false], z1, _, 0, by omega, by congr 1; omega, rfl, by simp; omega, HRS, hid (HD1.out.more (by omega))⟩
 case round =>
  clear HD1 HRS
  obtain ⟨k, us, op, z, pa, pc, hk, rfl, rfl, hul, HLO, HD⟩ := hrel
  by_cases hk0 : k = 0
  .subst hk0
   have hkn : ¬ (0 : Int) < ((0 : Nat) : Int) := by omega
   have hD0 : Hid (DG bs z op w c (A + 1934) (w.heap.size + 1) wr us (.slice pa us.length pc)) := hid (HD.out.more (by omega))
   have HU0 : Hid (drawF bs = fin3 us 3) := hid (by rw [HDR.out, <- HLO.out]; rfl)
   clear HD HLO HDR
   go_wp2
   rename World => wq
   go_loopw [5, 10] (fun lv nv wr => ∃ (j : Nat) (us2 : List Opn) (pa : Option Addr) (pc : Nat), j <= 3 /\ nv = .int .i64 ((j : Int) + 1) /\ lv = .slice pa us2.length pc /\ us2.length <= 138 + j /\ Hid (us2 = fin3 us j) /\ Hid (DG bs z op w c (A + 1934) (w.heap.size + 1) wr us2 (.slice pa us2.length pc))) (fun _ nv _ => (4 - intOf nv).toNat)
   case atStart => exact ⟨0, us, pa, pc, by omega, rfl, rfl, by omega, hid rfl, hD0⟩
   case round =>
    clear hD0 hul
    obtain ⟨j, us2, qa, qc, hj3, rfl, rfl, hul, HF3, HD⟩ := hrel
    by_cases hlt : j < 3
    .have hle : (j : Int) + 1 <= 3 := by omega
     have dA := HD.out.below hcl (below_alloc wr (.cells #[.int .i64 6, .int .i64 ((j : Int) + 1), .int .i64 0, .int .i64 0, .int .i64 0, .int .i64 0, .string ⟨#[]⟩] 41))
     have HDA := hid dA
     have hbA : w.heap.size <= (wr.alloc (.cells #[.int .i64 6, .int .i64 ((j : Int) + 1), .int .i64 0, .int .i64 0, .int .i64 0, .int .i64 0, .string ⟨#[]⟩] 41)).heap.size := HDA.out.upd.size
     have hcn := cells_new wr (opK ⟨6, (j : Int) + 1, 0, 0, 0, 0, ⟨#[]⟩⟩) 41 _ rfl
     have HCN := hid hcn
     clear dA hcn HD
     go_wp2_with (at_builtin; go_loud (refine wpList_append_own_at _ rfl (.tmp 100) (.tmp 103) 23 rfl w.heap.size 41 j0 _ 7 64 Tryz.underlying23 hj hy0 hy1 hy2 rfl (by decide) (.slice qa us2.length qc) us2.length (us2.flatMap opK) rfl HDA.out.row ⟨wr.heap.size, 0, none⟩ 1 1 (opK ⟨6, (j : Int) + 1, 0, 0, 0, 0, ⟨#[]⟩⟩) rfl rfl HCN.out (oneOp _) (by unfold maxLen; omega) (by omega) hbA ?_; intro v' w' hown hgrow _ hat; obtain ⟨na, nc, hvn⟩ := formR hown; subst hvn; have HDN := hid (HDA.out.push hcl hgrow hown hat); clear hown hgrow hat))
     go_roundw
     case rel => exact ⟨j + 1, us2 ++ [⟨6, (j : Int) + 1, 0, 0, 0, 0, ⟨#[]⟩⟩], na, nc, by omega, by go_num, by simp, by simp; omega, hid (by rw [HF3.out]; rfl), hid (by simpa using HDN.out)⟩
     case measure => simp [intOf]; omega
    .have hle : ¬ (j : Int) + 1 <= 3 := by omega
     have HUS : Hid (drawF bs = us2) := hid (by rw [HU0.out, HF3.out, show j = 3 by omega])
     have HF : Hid (DrG bs w c A (.returned (.slice qa us2.length qc)) wr) := hid ⟨_, rfl, by rw [HUS.out]; exact HD.out.row, by rw [HUS.out]; omega, HD.out.upd⟩
     clear HD
     go_wp2
     go_ret
     exact HF.out
  .have hkp : (0 : Int) < k := by omega
   have HP := hid (drawOp_fn bs z c (A + 2 + 28 * (69 - k)) wr HD.out.cur (by omega))
   go_wp2_with (go_at_call 37; fail)
   refine HP.out.mono ?_
   rintro e w2 ⟨o, z2, q2, rfl, ho, hc2, hu2⟩
   have HD2 := hid (HD.out.draw hcl hc2 hu2)
   obtain ⟨k', hk'⟩ : ∃ n, k = n + 1 := ⟨k - 1, by omega⟩
   have HLO2 : Hid (∀ a u b, f7 bs o.kd (op.getD o.ss.toNat false) z2 = a -> rest1F bs us op o a = u -> f13 bs o.kd (u.2.1.getD o.ss.toNat false) u.2.2 = b -> loopF bs (k - 1) (rest2F u.1 u.2.1 o b) = RS) := hid (fun a u b ha hu hb => by
    have := HLO.out
    rw [hk'] at this
    rw [show k - 1 = k' by omega]
    have e : roundF bs (us, op, z) = rest2F u.1 u.2.1 o b := by
     unfold roundF
     simp only [q2.out]
     rw [ha, hu, hb]
    rw [<- e]
    exact this)
   clear HD HP hc2 hu2 HLO hk'
   obtain ⟨kd, ss, tb, ky, vl, om, nm⟩ := o
   obtain ⟨⟨k1, k2⟩, ⟨s1, s2⟩, hn1⟩ := ho
   simp only at k1 k2 s1 s2 hn1
   obtain ⟨sn, rfl⟩ : ∃ q : Nat, ss = q := ⟨ss.toNat, by omega⟩
   simp only [opV]
   have bb := below_alloc w2 (.cells #[.int .i64 kd, .int .i64 (sn : Int), .int .i64 tb, .int .i64 ky, .int .i64 vl, .int .i64 om, .string nm] 41)
   have KO : Blk (w2.alloc (.cells #[.int .i64 kd, .int .i64 (sn : Int), .int .i64 tb, .int .i64 ky, .int .i64 vl, .int .i64 om, .string nm] 41)) w2.heap.size (opL kd sn tb ky vl om nm) := blk_new w2 (opL kd sn tb ky vl om nm) _
   have D3 := HD2.out.below hcl bb
   have hz3 : w2.heap.size < (w2.alloc (.cells #[.int .i64 kd, .int .i64 (sn : Int), .int .i64 tb, .int .i64 ky, .int .i64 vl, .int .i64 om, .string nm] 41)).heap.size := by simp
   have hw2 := HD2.out.obl
   obtain ⟨p0, p1⟩ := kc1 KO
   obtain ⟨ho1, _⟩ := D3.at (s := sn) (by omega)
   have HLO3 : Hid (∀ a u b, f7 bs kd (op.getD sn false) z2 = a -> rest1F bs us op ⟨kd, (sn : Int), tb, ky, vl, om, nm⟩ a = u -> f13 bs kd (u.2.1.getD sn false) u.2.2 = b -> loopF bs (k - 1) (rest2F u.1 u.2.1 ⟨kd, (sn : Int), tb, ky, vl, om, nm⟩ b) = RS) := hid HLO2.out
   obtain ⟨ob, hob⟩ : ∃ b, b = op.getD sn false := ⟨_, rfl⟩
   rw [<- hob] at ho1
   have HOB := hid hob
   clear hob HLO2
   have HD3 := hid D3
   have HKO := hid KO
   have hsi : (sn : Int) < 5 := by omega
   have HPN : Hid ((Value.slice pa us.length pc).ownBlock ≠ some w2.heap.size) := hid (fun e => by have := (HD2.out.row.lt _ e).2; omega)
   clear bb KO D3 HD2
   go_upto_region 7 with fail
   go_cut [38] (fun s wx => ∃ (b : Bool) (z' : Int × Int), s = .bool b /\ Hid (f7 bs kd (op.getD sn false) z2 = (b, z')) /\ Hid (DG bs z' op w c (A + 2 + 28 * (69 - k) + 16) (w.heap.size + 1) wx us (.slice pa us.length pc)) /\ Hid (Blk wx w2.heap.size (opL kd sn tb ky vl om nm)) /\ w2.heap.size < wx.heap.size)
   case first =>
    by_cases hk1 : kd = 1
    .subst hk1
     go_wp2
     go_meet
     case rel => exact ⟨_, z2, rfl, hid (by unfold f7; rw [<- HOB.out, if_neg (by simp)]), hid (HD3.out.more (by omega)), HKO, hz3⟩
    .have e1 : (kd != 1) = true := by simpa using hk1
     cases ob with
     | true =>
       go_wp2
       go_meet
       case rel => exact ⟨_, z2, rfl, hid (by unfold f7; rw [<- HOB.out, if_neg (by simp)]), hid (HD3.out.more (by omega)), HKO, hz3⟩
     | false =>
       have HP := hid (pick_fn bs z2 c (A + 2 + 28 * (69 - k) + 14) 8 _ HD3.out.cur (by omega) (by omega) (by omega))
       go_wp2_with (go_at_call 28; fail)
       refine HP.out.mono ?_
       rintro e w4 ⟨r4, z4, a4, b4, q4, rfl, hc4, hu4⟩
       have HD4 := hid (HD3.out.draw hcl hc4 hu4)
       have HK4 := hid (HKO.out.upd hu4 hz3 (by omega))
       have hs4 := Nat.lt_of_lt_of_le hz3 hu4.size
       clear hc4 hu4 HP
       go_wp2
       go_meet
       case rel => exact ⟨_, z4, rfl, hid (by unfold f7; rw [<- HOB.out, if_pos ⟨hk1, rfl⟩, q4.out]), hid (HD4.out.more (by omega)), HK4, hs4⟩
   case rest =>
    obtain ⟨b7, z7, rfl, HQ7, HD4, HK4, hz4⟩ := hcut
    clear HD3 HKO p0 p1 ho1 hz3
    have hpn : (Value.slice pa us.length pc).ownBlock ≠ some w2.heap.size := HPN.out
    have p1 : wc.cell? ⟨w2.heap.size, 1, none⟩ = some (.int .i64 (sn : Int)) := (HK4.out 1 (by simp [opL])).1
    go_upto_if 38 with fail
    go_cut [5] (fun s wx => ∃ (us' : List Opn) (op' : List Bool) (qa : Option Addr) (qc : Nat), s = .slice qa us'.length qc /\ us'.length <= us.length + 1 /\ Hid (rest1F bs us op ⟨kd, (sn : Int), tb, ky, vl, om, nm⟩ (b7, z7) = (us', op', z7)) /\ Hid (DG bs z7 op' w c (A + 2 + 28 * (69 - k) + 18) (w.heap.size + 1) wx us' (.slice qa us'.length qc)) /\ Hid (Blk wx w2.heap.size (opL kd sn tb ky vl om nm)) /\ w2.heap.size < wx.heap.size /\ (Value.slice qa us'.length qc).ownBlock ≠ some w2.heap.size)
    case first =>
     cases b7 with
     | false =>
       go_wp2
       go_meet
       case rel => exact ⟨us, op, pa, pc, rfl, by omega, hid (by unfold rest1F; rfl), hid (HD4.out.more (by omega)), HK4, hz4, hpn⟩
     | true =>
       have e2 : ((2 : Int) == 0) = false := by decide
       have bB := below_alloc wc (.cells #[.int .i64 1, .int .i64 (sn : Int), .int .i64 0, .int .i64 0, .int .i64 0, .int .i64 2, .string ⟨#[]⟩] 41)
       have HD5 := hid (HD4.out.below hcl bB)
       have HK5 := hid (HK4.out.below bB hz4)
       have dA := HD5.out.below hcl (below_alloc (wc.alloc (.cells #[.int .i64 1, .int .i64 (sn : Int), .int .i64 0, .int .i64 0, .int .i64 0, .int .i64 2, .string ⟨#[]⟩] 41)) (.cells #[.int .i64 1, .int .i64 (sn : Int), .int .i64 0, .int .i64 0, .int .i64 0, .int .i64 2, .string ⟨#[]⟩] 41))
       have HDA := hid dA
       have hzk : w2.heap.size < (wc.alloc (.cells #[.int .i64 1, .int .i64 (sn : Int), .int .i64 0, .int .i64 0, .int .i64 0, .int .i64 2, .string ⟨#[]⟩] 41)).heap.size := by first | omega | (simp; omega)
       have kA := HK5.out.below (below_alloc (wc.alloc (.cells #[.int .i64 1, .int .i64 (sn : Int), .int .i64 0, .int .i64 0, .int .i64 0, .int .i64 2, .string ⟨#[]⟩] 41)) (.cells #[.int .i64 1, .int .i64 (sn : Int), .int .i64 0, .int .i64 0, .int .i64 0, .int .i64 2, .string ⟨#[]⟩] 41)) hzk
       have HKA := hid kA
       have hzA : (wc.alloc (.cells #[.int .i64 1, .int .i64 (sn : Int), .int .i64 0, .int .i64 0, .int .i64 0, .int .i64 2, .string ⟨#[]⟩] 41)).heap.size < ((wc.alloc (.cells #[.int .i64 1, .int .i64 (sn : Int), .int .i64 0, .int .i64 0, .int .i64 0, .int .i64 2, .string ⟨#[]⟩] 41)).alloc (.cells #[.int .i64 1, .int .i64 (sn : Int), .int .i64 0, .int .i64 0, .int .i64 0, .int .i64 2, .string ⟨#[]⟩] 41)).heap.size := by simp
       have hbA : w.heap.size <= ((wc.alloc (.cells #[.int .i64 1, .int .i64 (sn : Int), .int .i64 0, .int .i64 0, .int .i64 0, .int .i64 2, .string ⟨#[]⟩] 41)).alloc (.cells #[.int .i64 1, .int .i64 (sn : Int), .int .i64 0, .int .i64 0, .int .i64 0, .int .i64 2, .string ⟨#[]⟩] 41)).heap.size := HDA.out.upd.size
       have hcn := cells_new (wc.alloc (.cells #[.int .i64 1, .int .i64 (sn : Int), .int .i64 0, .int .i64 0, .int .i64 0, .int .i64 2, .string ⟨#[]⟩] 41)) (opK ⟨1, sn, 0, 0, 0, 2, ⟨#[]⟩⟩) 41 _ rfl
       rw [show (wc.alloc (.cells #[.int .i64 1, .int .i64 (sn : Int), .int .i64 0, .int .i64 0, .int .i64 0, .int .i64 2, .string ⟨#[]⟩] 41)).heap.size = wc.heap.size + 1 by simp] at hcn
       have HCN := hid hcn
       clear dA kA hcn
       go_wp2_with (at_builtin; go_loud (refine wpList_append_own_at _ rfl (.tmp 49) (.tmp 51) 23 rfl w.heap.size 41 j0 _ 7 64 Tryz.underlying23 hj hy0 hy1 hy2 rfl (by decide) (.slice pa us.length pc) us.length (us.flatMap opK) rfl HDA.out.row ⟨wc.heap.size + 1, 0, none⟩ 1 1 (opK ⟨1, sn, 0, 0, 0, 2, ⟨#[]⟩⟩) rfl rfl HCN.out (oneOp _) (by unfold maxLen; omega) (by omega) hbA ?_; intro v' w' hown hgrow _ hat; obtain ⟨na, nc, hvn⟩ := formR hown; subst hvn; have HDN := hid (HDA.out.push hcl hgrow hown hat); have HKN := hid (HKA.out.fr (Fr.grown hgrow) (Nat.lt_trans hzk hzA) (fun z => hpn z)); have hsN : w2.heap.size < w'.heap.size := Nat.lt_of_lt_of_le (Nat.lt_trans hzk hzA) hgrow.size; have HPN2 : Hid ((Value.slice na (us.length + 1) nc).ownBlock ≠ some w2.heap.size) := hid (fun z => by rcases hat with y | y; exact hpn (y ▸ z); rw [y] at z; injection z with z; omega); obtain ⟨q1, q2⟩ := HDN.out.at (s := sn) (by omega); have q3 : w'.cell? ⟨w2.heap.size, 1, none⟩ = some (.int .i64 (sn : Int)) := (HKN.out 1 (by simp [opL])).1; clear hown hgrow hat))
       go_meet
       case rel => exact ⟨us ++ [⟨1, sn, 0, 0, 0, 2, ⟨#[]⟩⟩], op.set sn true, na, nc, by simp, by simp, hid (by unfold rest1F; rfl), hid (by simpa using (HDN.out.setO hcl (by omega) true).more (by omega)), hid (HKN.out.fr (Fr.setCell _ _ _ _) hsN (fun e => by have := HDN.out.obl; omega)), by simpa using hsN, by simpa using HPN2.out⟩
    case rest =>
     obtain ⟨us5, op5, qa, qc, rfl, hl5, HR1, HD5, HK5, hz5, hpn5⟩ := hcut
     clear HD4 HK4 hz4 hpn p1 HPN
     obtain ⟨p0, p1⟩ := kc1 HK5.out
     obtain ⟨o51, o52⟩ := HD5.out.at (s := sn) (by omega)
     obtain ⟨ob5, hob5'⟩ : ∃ b, b = op5.getD sn false := ⟨_, rfl⟩
     rw [<- hob5'] at o51
     have HOB5 := hid hob5'
     clear hob5'
     have HLO4 : Hid (∀ b, f13 bs kd (op5.getD sn false) z7 = b -> loopF bs (k - 1) (rest2F us5 op5 ⟨kd, (sn : Int), tb, ky, vl, om, nm⟩ b) = RS) := hid (fun b hb => HLO3.out _ _ b HQ7.out HR1.out hb)
     clear HLO3 HQ7 HR1
     have hob5 := HD5.out.obl
     go_upto_region 13 with fail
     go_cut [71] (fun s wx => ∃ (b : Bool) (z' : Int × Int), s = .bool b /\ Hid (f13 bs kd (op5.getD sn false) z7 = (b, z')) /\ Hid (DG bs z' op5 w c (A + 2 + 28 * (69 - k) + 20) (w.heap.size + 1) wx us5 (.slice qa us5.length qc)) /\ Hid (Blk wx w2.heap.size (opL kd sn tb ky vl om nm)) /\ w2.heap.size < wx.heap.size)
     case first =>
      by_cases hk1 : kd = 1
      .subst hk1
       cases ob5 with
       | false =>
         go_wp2
         go_meet
         case rel => exact ⟨_, z7, rfl, hid (by unfold f13; rw [<- HOB5.out, if_neg (by simp)]), hid (HD5.out.more (by omega)), HK5, hz5⟩
       | true =>
         have HP := hid (pick_fn bs z7 c (A + 2 + 28 * (69 - k) + 18) 6 _ HD5.out.cur (by omega) (by omega) (by omega))
         go_wp2_with (go_at_call 28; fail)
         refine HP.out.mono ?_
         rintro e w6 ⟨r6, z6, a6, b6, q6, rfl, hc6, hu6⟩
         have HD6 := hid (HD5.out.draw hcl hc6 hu6)
         have HK6 := hid (HK5.out.upd hu6 hz5 (by omega))
         have hs6 := Nat.lt_of_lt_of_le hz5 hu6.size
         clear hc6 hu6 HP
         go_wp2
         go_meet
         case rel => exact ⟨_, z6, rfl, hid (by unfold f13; rw [<- HOB5.out, if_pos ⟨rfl, rfl⟩, q6.out]), hid (HD6.out.more (by omega)), HK6, hs6⟩
      .have e1 : (kd == 1) = false := by simpa using hk1
       go_wp2
       go_meet
       case rel => exact ⟨_, z7, rfl, hid (by unfold f13; rw [<- HOB5.out, if_neg (by simp [hk1])]), hid (HD5.out.more (by omega)), HK5, hz5⟩
     case rest =>
      obtain ⟨b13, z13, rfl, HQ13, HD6, HK6, hz6⟩ := hcut
      have HLO5 := hid (HLO4.out _ HQ13.out)
      clear HLO4 HQ13
      clear HD5 HK5 hz5 p0 p1 o51 o52
      have p0 : wc.cell? ⟨w2.heap.size, 0, none⟩ = some (.int .i64 kd) := (HK6.out 0 (by simp [opL])).1
      have f0 : wc.frozen? ⟨w2.heap.size, 0, none⟩ = false := (HK6.out 0 (by simp [opL])).2
      go_upto_if 71 with fail
      go_cut [] (fun wx => ∃ kd' : Int, Hid ((if b13 then 2 else kd) = kd') /\ Hid (DG bs z13 op5 w c (A + 2 + 28 * (69 - k) + 20) (w.heap.size + 1) wx us5 (.slice qa us5.length qc)) /\ Hid (Blk wx w2.heap.size (opL kd' sn tb ky vl om nm)) /\ w2.heap.size < wx.heap.size)
      case first =>
       cases b13 with
       | false =>
         go_wp2
         go_meet
         case rel => exact ⟨kd, hid rfl, HD6, HK6, hz6⟩
       | true =>
         go_wp2
         go_meet
         case rel => exact ⟨2, hid rfl, hid (HD6.out.setB hcl (by omega) hpn5 (by omega) 0 (.int .i64 2)), hid (HK6.out.set 0 (.int .i64 2) (by simp [opL])), by simpa using hz6⟩
      case rest =>
       obtain ⟨kd', HQK, HD7, HK7, hz7⟩ := hcut
       have HLO6 : Hid (∀ o2 o3, (if kd' = 1 then op5.set sn true else op5) = o2 -> (if kd' = 6 \/ kd' = 7 then o2.set sn false else o2) = o3 -> loopF bs (k - 1) (us5 ++ [⟨kd', (sn : Int), tb, ky, vl, om, nm⟩], o3, z13) = RS) := hid (fun o2 o3 h2 h3 => by
        have := HLO5.out
        unfold rest2F at this
        simp only [Int.toNat_natCast] at this
        rw [HQK.out, h2, h3] at this
        exact this)
       clear HLO5 HQK
       clear HD6 HK6 hz6 p0 f0
       obtain ⟨p0, p1⟩ := kc1 HK7.out
       obtain ⟨o71, o72⟩ := HD7.out.at (s := sn) (by omega)
       go_upto_if 75 with fail
       go_cut [] (fun wx => ∃ op6 : List Bool, Hid ((if kd' = 1 then op5.set sn true else op5) = op6) /\ Hid (DG bs z13 op6 w c (A + 2 + 28 * (69 - k) + 20) (w.heap.size + 1) wx us5 (.slice qa us5.length qc)) /\ Hid (Blk wx w2.heap.size (opL kd' sn tb ky vl om nm)) /\ w2.heap.size < wx.heap.size)
       case first =>
        by_cases hk1 : kd' = 1
        .subst hk1
         go_wp2
         go_meet
         case rel => exact ⟨op5.set sn true, hid (by simp), hid (HD7.out.setO hcl (by omega) true), hid (HK7.out.fr (Fr.setCell _ _ _ _) hz7 (fun e => by have := HD7.out.obl; omega)), by simpa using hz7⟩
        .have e1 : (kd' == 1) = false := by simpa using hk1
         go_wp2
         go_meet
         case rel => exact ⟨op5, hid (if_neg hk1), HD7, HK7, hz7⟩
       case rest =>
        obtain ⟨op6, HQ6, HD8, HK8, hz8⟩ := hcut
        have HLO7 := hid (fun o3 h3 => HLO6.out op6 o3 HQ6.out h3)
        clear HLO6 HQ6
        clear HD7 HK7 hz7 p0 p1 o71 o72
        obtain ⟨p0, p1⟩ := kc1 HK8.out
        obtain ⟨o81, o82⟩ := HD8.out.at (s := sn) (by omega)
        go_upto_region 17 with fail
        go_cut [87] (fun s wx => ∃ b : Bool, s = .bool b /\ wx = wc /\ Hid (b = true ↔ (kd' = 6 \/ kd' = 7)))
        case first =>
         by_cases hk6 : kd' = 6
         .subst hk6
          go_wp2
          go_meet
          case rel => exact ⟨_, rfl, rfl, hid (by simp)⟩
         .have e6 : (kd' == 6) = false := by simpa using hk6
          go_wp2
          go_meet
          case rel => exact ⟨_, rfl, rfl, hid (by simp [hk6])⟩
        case rest =>
         obtain ⟨b17, rfl, rfl, HQ17⟩ := hcut
         go_upto_if 87 with fail
         go_cut [] (fun wx => ∃ op7 : List Bool, Hid ((if kd' = 6 \/ kd' = 7 then op6.set sn false else op6) = op7) /\ Hid (DG bs z13 op7 w c (A + 2 + 28 * (69 - k) + 20) (w.heap.size + 1) wx us5 (.slice qa us5.length qc)) /\ Hid (Blk wx w2.heap.size (opL kd' sn tb ky vl om nm)) /\ w2.heap.size < wx.heap.size)
         case first =>
          cases b17 with
          | false =>
            go_wp2
            go_meet
            case rel => exact ⟨op6, hid (if_neg (fun e => by have := HQ17.out.2 e; cases this)), HD8, HK8, hz8⟩
          | true =>
            go_wp2
            go_meet
            case rel => exact ⟨op6.set sn false, hid (if_pos (HQ17.out.1 (by trivial))), hid (HD8.out.setO hcl (by omega) false), hid (HK8.out.fr (Fr.setCell _ _ _ _) hz8 (fun e => by have := HD8.out.obl; omega)), by simpa using hz8⟩
         case rest =>
          obtain ⟨op7, HQ9, HD9, HK9, hz9⟩ := hcut
          have HLO8 := hid (HLO7.out op7 HQ9.out)
          clear HLO7 HQ9
          clear HD8 HK8 hz8 p0 p1 o81 o82
          obtain ⟨p0, p1, p2, p3, p4, p5, p6⟩ := kc6 HK9.out
          have dA := HD9.out.below hcl (below_alloc wc (.cells #[.int .i64 kd', .int .i64 (sn : Int), .int .i64 tb, .int .i64 ky, .int .i64 vl, .int .i64 om, .string nm] 41))
          have HDA := hid dA
          have hbA : w.heap.size <= (wc.alloc (.cells #[.int .i64 kd', .int .i64 (sn : Int), .int .i64 tb, .int .i64 ky, .int .i64 vl, .int .i64 om, .string nm] 41)).heap.size := HDA.out.upd.size
          have hcn := cells_new wc (opK ⟨kd', sn, tb, ky, vl, om, nm⟩) 41 _ rfl
          have HCN := hid hcn
          clear dA hcn HD9 HK9
          go_wp2_with (at_builtin; go_loud (refine wpList_append_own_at _ rfl (.tmp 92) (.tmp 94) 23 rfl w.heap.size 41 j0 _ 7 64 Tryz.underlying23 hj hy0 hy1 hy2 rfl (by decide) (.slice qa us5.length qc) us5.length (us5.flatMap opK) rfl HDA.out.row ⟨wc.heap.size, 0, none⟩ 1 1 (opK ⟨kd', sn, tb, ky, vl, om, nm⟩) rfl rfl HCN.out (oneOp _) (by unfold maxLen; omega) (by omega) hbA ?_; intro v' w' hown hgrow _ hat; obtain ⟨na, nc, hvn⟩ := formR hown; subst hvn; have HDN := hid (HDA.out.push hcl hgrow hown hat); clear hown hgrow hat))
          go_roundw
          case rel => exact ⟨k - 1, us5 ++ [⟨kd', sn, tb, ky, vl, om, nm⟩], op7, z13, na, nc, by omega, by congr 1; omega, by simp, by simp; omega, HLO8, hid (by simpa using HDN.out.more (by omega))⟩
          case measure => simp [intOf]; omega
theorem bytes_list {w : World} {c : Nat} {v0 : Option Addr} : ∀ {len : Nat}, Bytes w c v0 len -> ∃ bs : List Int, bs.length = len /\ BytesF bs w c v0
 | 0, _ => ⟨[], rfl, fun j hj => by simp at hj⟩
 | n + 1, h => by
   obtain ⟨bs, hl, hf⟩ := bytes_list (len := n) (fun j hj => h j (by omega))
   obtain ⟨g, o, b, e1, e2, e3, e4⟩ := h n (by omega)
   refine ⟨bs ++ [b], by simp [hl], fun j hj => ?_⟩
   by_cases hjn : j < bs.length
   .obtain ⟨g, o, b', e1, e2, e3, e4⟩ := hf j hjn
    exact ⟨g, o, b', e1, e2, e3, by rw [e4]; simp [List.getD_eq_getElem?_getD, List.getElem?_append_left hjn]⟩
   .have hj2 : j = bs.length := by simp at hj; omega
    subst hj2
    rw [<- hl] at e3
    exact ⟨g, o, b, e1, e2, e3, by simp [List.getD_eq_getElem?_getD]⟩
theorem curF_new (w : World) (bs : List Int) (v0 : Option Addr) (cap : Nat) (hl : bs.length <= 1048576) (hb : Bytes w w.heap.size v0 bs.length) (hf : BytesF bs w w.heap.size v0) :
 CurF bs (0, 0) (w.alloc (.cells #[.slice v0 bs.length cap, .int .i64 0, .int .i64 0, .int .i64 0] 60)) w.heap.size 0 := by
 refine ⟨v0, cap, 0, ⟨by simp [go_sem], by simp [go_sem], by simp [go_sem], by simp [go_sem], by simp [go_sem], by simp [go_sem], by simp only; omega, by simp only; omega, by simp only; omega, by simp only; omega, hl, by simp, ?_⟩, ?_⟩
 .intro j hj
  obtain ⟨g, o, b, e1, e2, e3, e4⟩ := hb j hj
  exact ⟨g, o, b, e1, e2, ((below_alloc w _).cell (p := ⟨g, o + j, none⟩) e2).trans e3, e4⟩
 .intro j hj
  obtain ⟨g, o, b, e1, e2, e3, e4⟩ := hf j hj
  exact ⟨g, o, b, e1, e2, ((below_alloc w _).cell (p := ⟨g, o + j, none⟩) e2).trans e3, e4⟩
def DrSe (bs : List Int) (w : World) (e : Ending) (w' : World) : Prop := ∃ (v : Value), e = .returned v /\ w'.ownsRow w.heap.size 41 7 v (drawF bs).length ((drawF bs).flatMap opK) /\ (drawF bs).length <= 141 /\ Below w.heap.size w w'
theorem drawSerial_fn (bs : List Int) (v0 : Option Addr) (cap : Nat) (w : World) (hl : bs.length <= 1048576) (hb : Bytes w w.heap.size v0 bs.length) (hf : BytesF bs w w.heap.size v0) :
 Calls Tryz.prog 6 #[.slice v0 bs.length cap] w fun e w' => DrSe bs w e w' := by
 have HC := hid (curF_new w bs v0 cap hl hb hf)
 obtain ⟨n, hn⟩ : ∃ n, n = bs.length := ⟨_, rfl⟩
 rw [<- hn] at HC ⊢
 clear hb hf hl hn
 go_enter Tryz.func6, Tryz.ntmps6
 go_wp2_with (go_at_call 20; fail)
 refine (drawOps_fn bs w.heap.size 0 _ HC.out (by omega)).mono ?_
 rintro e w1 ⟨v, rfl, hrow, hl2, hu⟩
 have HF : Hid (DrSe bs w (.returned v) w1) := hid ⟨v, rfl, own_bs hrow (by simp), hl2, Upd.below (below_alloc w _) hu (Nat.le_refl _)⟩
 clear hrow hl2 hu HC
 go_wp2
 go_ret
 exact HF.out

theorem sameTxn_same (cd vl s1 s2 : Int) (fd : Bool) (pa pb : Value) (ps : List (Int × Int)) (w : World) (hn : ps.length <= 1048576) (hp : RS 2 CPr 0 w pa ps) (hq : RS 2 CPr 0 w pb ps) :
 Calls Tryz.prog 11 #[.agg #[.int .i64 cd, .int .i64 vl, .int .i64 s1, .bool fd, pa], .agg #[.int .i64 cd, .int .i64 vl, .int .i64 s2, .bool fd, pb]] w fun e w' => e = .returned (.bool true) /\ Below w.heap.size w w' := by
 obtain ⟨a, ca, rfl, hva⟩ := hp
 obtain ⟨b, cb, rfl, hub⟩ := hq
 have g1 : (cd != cd) = false := by simp
 have g2 : (vl != vl) = false := by simp
 have g3 : (fd != fd) = false := by simp
 have g4 : ((ps.length : Int) != (ps.length : Int)) = false := by simp
 go_enter Tryz.func11, Tryz.ntmps11
 go_wp2
 go_loopw [37] (fun i wr => ∃ k : Nat, k <= ps.length /\ i = .int .i64 k /\ Below w.heap.size w wr /\ wr.cell? ⟨w.heap.size, 4, none⟩ = some (.slice a ps.length ca) /\ wr.cell? ⟨w.heap.size + 1, 4, none⟩ = some (.slice b ps.length cb)) (fun i _ => ps.length - (intOf i).toNat)
 case atStart => exact ⟨0, Nat.zero_le _, rfl, bl, by simp [go_sem], by simp [go_sem]⟩
 case round =>
  obtain ⟨k, hk, rfl, hbel, x4, y4⟩ := hrel
  by_cases hlt : k < ps.length
  .have hlti : (k : Int) < ps.length := by omega
   obtain ⟨g, o, rfl, _, hg, hgc⟩ := hva (by omega)
   obtain ⟨g2, o2, rfl, _, hg2, hgc2⟩ := hub (by omega)
   obtain ⟨cs, hC, hcell⟩ := hgc k hlt
   obtain ⟨ds, hD, hcell2⟩ := hgc2 k hlt
   unfold CPr pairV at hC hD
   subst hC hD
   have c0 : wr.cell? ⟨g, o + k * 2, none⟩ = some (.int .i64 ps[k].1) := ct hbel hg (hcell 0 (by omega))
   have c1 : wr.cell? ⟨g, o + k * 2 + 1, none⟩ = some (.int .i64 ps[k].2) := ct hbel hg (hcell 1 (by omega))
   have d0 : wr.cell? ⟨g2, o2 + k * 2, none⟩ = some (.int .i64 ps[k].1) := ct hbel hg2 (hcell2 0 (by omega))
   have d1 : wr.cell? ⟨g2, o2 + k * 2 + 1, none⟩ = some (.int .i64 ps[k].2) := ct hbel hg2 (hcell2 1 (by omega))
   clear hgc hgc2 hva hub hcell hcell2
   generalize ps[k] = t at c0 c1 d0 d1
   obtain ⟨t1, t2⟩ := t
   simp only at c0 c1 d0 d1
   have hbs := hbel.size
   go_wp2
   go_quiet (fail)
   go_wp2
   go_roundw
   case rel => exact ⟨k + 1, by omega, by go_num, hbel.trans ((below_drewNt _ _).mono hbs), x4, y4⟩
   case measure => simp [intOf]; omega
  .have hlti : ¬ (k : Int) < ps.length := by omega
   go_wp2
   go_ret
   exact ⟨rfl, hbel⟩
end Go.Proofs.YtblkgicbimflhaaGreat
