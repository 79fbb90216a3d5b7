import Derived.Test.YtblkgicbimflhaaGreatSAE
import Derived.Lib.Strings
import Derived.Test.YtblkgicbimflhaaGreatSAA
namespace Go.Proofs.YtblkgicbimflhaaGreat
open Go.ChangeShapes Go.WideShapes Go.ChangeAt Go.RowKit
set_option linter.unusedVariables false
set_option linter.unusedSimpArgs false
set_option maxRecDepth 100000
set_option maxHeartbeats 16000000
def pairV (p : Int × Int) : List Value := [.int .i64 p.1, .int .i64 p.2]
def CPr (B : Nat) (w : World) (cs : List Value) (p : Int × Int) : Prop := cs = pairV p
theorem liesPr : Lies 2 CPr := ⟨fun h => by rw [h]; rfl, fun h _ => h, fun h _ => h, fun h _ => h⟩
theorem onePr : ∀ {B : Nat} {w : World} {cs : List Value} {x : Int × Int}, CPr B w cs x -> ∀ u ∈ cs, u.oneCell' = true := fun h u hu => by
 rw [h] at hu
 unfold pairV at hu
 simp at hu
 rcases hu with rfl | rfl <;> rfl
def Gr {α : Type} (f : α -> List Value) (ty k b : Nat) (w : World) (v : Value) (xs : List α) : Prop := w.ownsRow b ty k v xs.length (xs.flatMap f)
theorem Gr.below {α : Type} {f : α -> List Value} {ty k b : Nat} {w w' : World} {v : Value} {xs : List α} (h : Gr f ty k b w v xs) (hb : Below w.heap.size w w') : Gr f ty k b w' v xs := own_below h hb
theorem Gr.push {α : Type} {f : α -> List Value} {ty k b : Nat} {w' : World} {v' : Value} {xs : List α} {x : α} (h : w'.ownsRow b ty k v' (xs.length + 1) (xs.flatMap f ++ f x)) : Gr f ty k b w' v' (xs ++ [x]) := by
 unfold Gr; rw [List.flatMap_append, List.length_append]; simpa using h
theorem fill_flat {α : Type} {f : α -> List Value} {k : Nat} {C : Nat -> World -> List Value -> α -> Prop} (hC : Lies k C) (B : Nat) (w : World) : ∀ us : List α, (∀ x ∈ us, C B w (f x) x) -> Fill k C B us us.length (us.flatMap f) w
 | [], _ => fill_nil _ _ _ _
 | t :: r, h => by
   have h1 := fill_one hC (h t List.mem_cons_self)
   exact h1.append (fill_flat hC B w r (fun x hx => h x (List.mem_cons_of_mem _ hx)))
theorem Gr.rs {α : Type} {f : α -> List Value} {ty k b : Nat} {w : World} {v : Value} {xs : List α} {C : Nat -> World -> List Value -> α -> Prop} (hC : Lies k C) (h : Gr f ty k b w v xs) (hx : ∀ x ∈ xs, C b w (f x) x) : RS k C b w v xs := (fill_flat hC b w xs hx).own hC h (Nat.le_refl _)
def pairAt (cms : List Com) (bg : Int) (own : List Cel) (tb k : Int) : Option (Int × Int) := if (seesF cms bg own tb k).2 then some (k, (seesF cms bg own tb k).1) else none
def pairsF (cms : List Com) (bg : Int) (own : List Cel) (tb : Int) (ks : List Int) : List (Int × Int) := ks.filterMap (pairAt cms bg own tb)
def listF (cms : List Com) (bg : Int) (own : List Cel) (tb : Int) : List (Int × Int) := pairsF cms bg own tb (keysF cms own tb)
theorem pairsF_yes {cms : List Com} {bg tb x : Int} {own : List Cel} {ks : List Int} {j : Nat} (hj : j < ks.length) (h : seesF cms bg own tb ks[j] = (x, true)) : pairsF cms bg own tb (ks.take (j + 1)) = pairsF cms bg own tb (ks.take j) ++ [(ks[j], x)] := by
 unfold pairsF
 rw [show ks.take (j + 1) = ks.take j ++ [ks[j]] by rw [List.take_add_one, List.getElem?_eq_getElem hj]; rfl, List.filterMap_append]
 simp [pairAt, h]
theorem pairsF_no {cms : List Com} {bg tb x : Int} {own : List Cel} {ks : List Int} {j : Nat} (hj : j < ks.length) (h : seesF cms bg own tb ks[j] = (x, false)) : pairsF cms bg own tb (ks.take (j + 1)) = pairsF cms bg own tb (ks.take j) := by
 unfold pairsF
 rw [show ks.take (j + 1) = ks.take j ++ [ks[j]] by rw [List.take_add_one, List.getElem?_eq_getElem hj]; rfl, List.filterMap_append]
 simp [pairAt, h]
theorem pairsF_len (cms : List Com) (bg tb : Int) (own : List Cel) (ks : List Int) : (pairsF cms bg own tb ks).length <= ks.length := List.length_filterMap_le _ _
theorem keysF_len (cms : List Com) (own : List Cel) (tb : Int) : (keysF cms own tb).length <= (allC cms own).length := foldK_len _ _
theorem int_at {b : Nat} {w : World} {a : Option Addr} {n c : Nat} {xs : List Int} (h : RS 1 CI b w (.slice a n c) xs) (hp : 0 < xs.length) : ∃ g o, a = some ⟨g, o, none⟩ /\ b <= g /\ g < w.heap.size /\ ∀ j (hj : j < xs.length), w.cell? ⟨g, o + j, none⟩ = some (.int .i64 xs[j]) := by
 obtain ⟨a', c', he, hh⟩ := h
 obtain ⟨g, o, e2, h1, h2, h3⟩ := hh hp
 simp only [Value.slice.injEq] at he
 refine ⟨g, o, he.1.trans e2, h1, h2, fun j hj => ?_⟩
 obtain ⟨cs, hc, hcell⟩ := h3 j hj
 cases hc
 have := hcell 0 (by omega)
 rw [Nat.mul_one, Nat.add_zero] at this
 exact this
theorem rsI_kept {b : Nat} {w w' : World} {a : Option Addr} {n c : Nat} {xs : List Int} {row : Option Nat} (h : RS 1 CI b w (.slice a n c) xs) (hg : w.grownBy w' row) (hr : ∀ g o, 0 < xs.length -> a = some ⟨g, o, none⟩ -> row ≠ some g) : RS 1 CI b w' (.slice a n c) xs := by
 obtain ⟨a', c', he, hh⟩ := h
 refine ⟨a', c', he, fun hp => ?_⟩
 obtain ⟨g, o, e2, h1, h2, h3⟩ := hh hp
 simp only [Value.slice.injEq] at he
 have hne := hr g o hp (he.1.trans e2)
 refine ⟨g, o, e2, h1, Nat.lt_of_lt_of_le h2 hg.size, fun i hi => ?_⟩
 obtain ⟨cs, x, y⟩ := h3 i hi
 refine ⟨cs, x, fun q hq => ?_⟩
 rw [<- y q hq]
 exact World.cell?_of_block (hg.block g h2 (fun e => hne e.symm))
theorem blkA2 (w : World) (c0 c1 : List Value) (t0 t1 : Nat) : Blk ((w.alloc (.cells c0.toArray t0)).alloc (.cells c1.toArray t1)) w.heap.size c0 := (blk_new w c0 t0).below (below_alloc _ _) (by simp)
theorem infoPr : (Tryz.prog.info? 92).map (fun i => (i.zero, i.size, i.bytes)) = some (some (.agg #[.int .i64 0, .int .i64 0]), 2, 16) := by kernel_rfl
theorem list_spec (bb : Nat) (ck : Int) (ma : Option Addr) (mc : Nat) (hv tv rv sv : Value) (op : Bool) (md bg : Int) (oa : Option Addr) (oc : Nat) (cms : List Com) (own : List Cel) (tb : Int) (w : World) (hm : BM cms) (ht : (allC cms own).length <= 1048576) (hbb : bb < w.heap.size)
 (hB : Blk w bb [.int .i64 ck, .slice ma cms.length mc, hv, tv]) (hms : RS 2 CCm 0 w (.slice ma cms.length mc) cms) (hown : RS 4 CC 0 w (.slice oa own.length oc) own) :
 Calls Tryz.prog 39 #[.pointer (some ⟨bb, 0, none⟩), .agg #[.bool op, .int .i64 md, .int .i64 bg, .slice oa own.length oc, rv, sv], .int .i64 tb] w fun e w' => ∃ (a : Option Addr) (c : Nat), e = .returned (.slice a (listF cms bg own tb).length c) /\ Gr pairV 92 2 w.heap.size w' (.slice a (listF cms bg own tb).length c) (listF cms bg own tb) /\ Below w.heap.size w w' := by
 obtain ⟨i0, hi, hz0, hz1, hz2⟩ := info_parts infoPr
 have bw : Below w.heap.size w ((w.alloc (.cells #[.bool op, .int .i64 md, .int .i64 bg, .slice oa own.length oc, rv, sv] 70)).alloc (.cells #[] 92)) := (below_alloc w _).alloc (by simp) _
 have K4 := hid (blkA2 w [.bool op, .int .i64 md, .int .i64 bg, .slice oa own.length oc, rv, sv] [] 70 92)
 have HG : Hid (Gr pairV 92 2 w.heap.size ((w.alloc (.cells #[.bool op, .int .i64 md, .int .i64 bg, .slice oa own.length oc, rv, sv] 70)).alloc (.cells #[] 92)) (.slice (some ⟨w.heap.size + 1, 0, none⟩) 0 0) []) := hid (by
  have := World.ownsRow_made (base := w.heap.size) (e := 92) (size := 2) (w.alloc (.cells #[.bool op, .int .i64 md, .int .i64 bg, .slice oa own.length oc, rv, sv] 70)) #[] 0 (by simp) (by unfold maxLen; omega) (by simp)
  unfold Gr
  simpa using this)
 have hol : own.length <= 1048576 := by unfold allC at ht; rw [List.length_append] at ht; omega
 have HSE := hid (fun k W (h : Below w.heap.size w W) => sees_spec bb ck ma mc hv tv rv sv op md bg oa oc cms own tb k W hm hol (Nat.lt_of_lt_of_le hbb h.size) (hB.below h hbb) (hms.below liesM h) (hown.below liesC h))
 have hkk := keys_spec bb ck ma mc hv tv rv sv op md bg oa oc cms own tb _ hm ht (Nat.lt_of_lt_of_le hbb bw.size) (hB.below bw hbb) (hms.below liesM bw) (hown.below liesC bw)
 have hkl := Nat.le_trans (keysF_len cms own tb) ht
 clear hown hB hms hm ht
 have hz4 : w.heap.size < ((w.alloc (.cells #[.bool op, .int .i64 md, .int .i64 bg, .slice oa own.length oc, rv, sv] 70)).alloc (.cells #[] 92)).heap.size := by simp; omega
 go_enter Tryz.func39, Tryz.ntmps39
 go_wp2_with (go_at_call 58; fail)
 refine hkk.mono ?_
 rintro e w1 ⟨ka, kc, rfl, hrk, hb1⟩
 have bw1 : Below w.heap.size w w1 := bw.trans (hb1.mono bw.size)
 replace K4 := hid (K4.out.below hb1 hz4)
 have hz1w : w.heap.size < w1.heap.size := Nat.lt_of_lt_of_le hz4 hb1.size
 have HG1 := hid (HG.out.below hb1)
 have HRK := hid (hrk.mono liesI (Nat.zero_le _))
 have HKB : Hid (∀ g o, 0 < (keysF cms own tb).length -> ka = some ⟨g, o, none⟩ -> w.heap.size + 1 < g /\ g < w1.heap.size) := hid (fun g o hp hk => by
  obtain ⟨g', o', e2, h1, h2, _⟩ := int_at hrk hp
  rw [hk] at e2
  cases e2
  simp at h1
  exact ⟨by omega, h2⟩)
 have HLF : Hid (listF cms bg own tb = pairsF cms bg own tb (keysF cms own tb)) := rfl
 clear hkk hrk hb1 hz4 bw HG
 generalize keysF cms own tb = ks at *
 go_wp2
 go_loopw [7, 18] (fun pv iv wr => ∃ (k : Nat) (ps : List (Int × Int)) (pa : Option Addr) (pc : Nat), k <= ks.length /\ iv = .int .i64 k /\ pv = .slice pa ps.length pc /\ Hid (ps = pairsF cms bg own tb (ks.take k)) /\ Hid (Gr pairV 92 2 w.heap.size wr (.slice pa ps.length pc) ps) /\ Hid (Blk wr w.heap.size [.bool op, .int .i64 md, .int .i64 bg, .slice oa own.length oc, rv, sv]) /\ w.heap.size < wr.heap.size /\ Below w.heap.size w wr /\ Hid (RS 1 CI 0 wr (.slice ka ks.length kc) ks) /\ Hid (∀ g, (Value.slice pa ps.length pc).ownBlock = some g -> g <= w.heap.size + 1 \/ w1.heap.size <= g) /\ w1.heap.size <= wr.heap.size /\ Hid (∀ g, (Value.slice pa ps.length pc).ownBlock = some g -> w.heap.size < g)) (fun _ iv _ => ks.length - (intOf iv).toNat)
 case atStart => exact ⟨0, [], _, 0, Nat.zero_le _, rfl, rfl, (by simp [pairsF] : ([] : List (Int × Int)) = pairsF cms bg own tb (ks.take 0)), HG1, K4, hz1w, bw1, HRK, (fun g h => by simp [Value.ownBlock] at h; omega : ∀ g, (Value.slice (some ⟨w.heap.size + 1, 0, none⟩) 0 0).ownBlock = some g -> g <= w.heap.size + 1 \/ w1.heap.size <= g), Nat.le_refl _, (fun g h => by simp [Value.ownBlock] at h; omega : ∀ g, (Value.slice (some ⟨w.heap.size + 1, 0, none⟩) 0 0).ownBlock = some g -> w.heap.size < g)⟩
 case round =>
  clear HG1 K4 hz1w bw1 HRK
  obtain ⟨k, ps, pa, pc, hk, rfl, rfl, HPS, HG, K4, hz, hbel, HRK, HPB, hw1s, HGL⟩ := hrel
  have hbs := hbel.size
  have hpl : ps.length <= 1048576 := by rw [HPS.out]; exact Nat.le_trans (pairsF_len _ _ _ _ _) (by rw [List.length_take]; omega)
  by_cases hlt : k < ks.length
  .have hlti : (k : Int) < ks.length := by omega
   obtain ⟨kg, ko, rfl, _, hkg, hkc⟩ := int_at HRK.out (by omega)
   have c0 := hkc k hlt
   have HY := hid (fun x h => pairsF_yes (cms := cms) (bg := bg) (own := own) (tb := tb) (x := x) hlt h)
   have HN := hid (fun x h => pairsF_no (cms := cms) (bg := bg) (own := own) (tb := tb) (x := x) hlt h)
   have hse := HSE.out ks[k] wr hbel
   obtain ⟨t0, t1, t2, t3⟩ := kc3 K4.out
   have t4 : wr.cell? ⟨w.heap.size, 4, none⟩ = some rv := (K4.out 4 (by simp)).1
   have t5 : wr.cell? ⟨w.heap.size, 5, none⟩ = some sv := (K4.out 5 (by simp)).1
   clear hkc
   generalize ks[k] = y at c0 HY HN hse
   go_wp2_with (go_at_call 38; fail)
   refine hse.mono ?_
   rintro e w3 ⟨rfl, hb3⟩
   replace HG := hid (HG.out.below hb3)
   replace K4 := hid (K4.out.below hb3 hz)
   replace HRK := hid (HRK.out.below liesI hb3)
   have bw3 : Below w.heap.size w w3 := hbel.trans (hb3.mono hbs)
   have hz3 : w.heap.size < w3.heap.size := Nat.lt_of_lt_of_le hz hb3.size
   have hw3s : w1.heap.size <= w3.heap.size := Nat.le_trans hw1s hb3.size
   clear hse hb3 t0 t1 t2 t3 t4 t5 c0 hbel hbs
   obtain ⟨x, fd, hsf⟩ : ∃ x fd, seesF cms bg own tb y = (x, fd) := ⟨_, _, rfl⟩
   rw [hsf]
   rcases fd with _ | _
   .have HV := hid (HN.out x hsf)
    have HPV : Hid (ps = pairsF cms bg own tb (ks.take (k + 1))) := hid (by rw [HV.out]; exact HPS.out)
    clear HY HN hsf HV
    go_wp2
    go_roundw
    case rel => exact ⟨k + 1, ps, pa, pc, by omega, by go_num, rfl, HPV, HG, K4, hz3, bw3, HRK, HPB, hw3s, HGL⟩
    case measure => simp [intOf]; omega
   .have HV := hid (HY.out x hsf)
    have HPV : Hid (ps ++ [(y, x)] = pairsF cms bg own tb (ks.take (k + 1))) := hid (by rw [HV.out, <- HPS.out])
    have HGA := hid (HG.out.below (below_alloc w3 (.cells #[.int .i64 y, .int .i64 x] 92)))
    have bwA := bw3.alloc bw3.size (.cells #[.int .i64 y, .int .i64 x] 92)
    have K4A := hid (K4.out.below (below_alloc w3 (.cells #[.int .i64 y, .int .i64 x] 92)) hz3)
    have HRA := hid (HRK.out.below liesI (below_alloc w3 (.cells #[.int .i64 y, .int .i64 x] 92)))
    clear HY HN hsf HV
    have HPX : Hid ((Value.slice pa ps.length pc).ownBlock ≠ some w.heap.size) := hid (fun e => by have := (HG.out.lt _ e).1; have h2 := HGL.out _ e; omega)
    go_wp2_with (at_builtin; go_loud (refine wpList_append_own_at _ rfl (.tmp 31) (.tmp 35) 36 rfl w.heap.size 92 i0 _ 2 16 Tryz.underlying36 hi hz0 hz1 hz2 rfl (by decide) (.slice pa ps.length pc) ps.length (ps.flatMap pairV) rfl HGA.out ⟨w3.heap.size, 0, none⟩ 1 1 (pairV (y, x)) rfl rfl (cells_new _ (pairV (y, x)) 92 _ (by simp)) (onePr (B := 0) (w := w) (x := (y, x)) rfl) (by unfold maxLen; omega) (by omega) (by simp; omega) ?_; intro v' w' hown hgrow _ hblk; obtain ⟨na, nc, hvn⟩ := formR hown; subst hvn; have HGN : Hid (Gr pairV 92 2 w.heap.size w' (.slice na (ps.length + 1) nc) (ps ++ [(y, x)])) := Gr.push hown; have bwN : Below w.heap.size w w' := bwA.grown hgrow bwA.size (fun q hq => (HGA.out.lt q hq).1); have K4N := hid (K4A.out.keptG hgrow (by simp; omega) HPX.out); have HRN := hid (rsI_kept HRA.out hgrow (fun g o hp hk e => by have h1 := HKB.out g o hp hk; have h2 := HPB.out g e; omega)); have HBN : Hid (∀ g, (Value.slice na (ps.length + 1) nc).ownBlock = some g -> g <= w.heap.size + 1 \/ w1.heap.size <= g) := (fun g hg => by rcases hblk with e | e; exact HPB.out g (e ▸ hg); rw [e] at hg; simp at hg; omega); have HLN : Hid (∀ g, (Value.slice na (ps.length + 1) nc).ownBlock = some g -> w.heap.size < g) := (fun g hg => by rcases hblk with e | e; exact HGL.out g (e ▸ hg); rw [e] at hg; simp at hg; omega); have hzN : w.heap.size < w'.heap.size := Nat.lt_of_lt_of_le (by simp; omega) hgrow.size; have hwN : w1.heap.size <= w'.heap.size := Nat.le_trans (by simp; omega) hgrow.size; clear hown hgrow hblk))
    go_roundw
    case rel => exact ⟨k + 1, ps ++ [(y, x)], na, nc, by omega, by go_num, by simp, HPV, hid (by simpa using HGN.out), K4N, hzN, bwN, HRN, hid (by simpa using HBN.out), hwN, hid (by simpa using HLN.out)⟩
    case measure => simp [intOf]; omega
  .have hkn : k = ks.length := by omega
   subst hkn
   have hlti : ¬ (ks.length : Int) < ks.length := by omega
   rw [List.take_length] at HPS
   have HE : Hid (ps = listF cms bg own tb) := hid (by rw [HLF.out]; exact HPS.out)
   go_wp2
   go_ret
   exact ⟨pa, pc, by rw [<- HE.out]; rfl, by rw [<- HE.out]; exact HG.out, hbel⟩
structure Sav where
 nm : ByteArray
 cs : List Cel
def CSv (B : Nat) (w : World) (vs : List Value) (s : Sav) : Prop := ∃ cv, vs = [.string s.nm, cv] /\ RS 4 CC B w cv s.cs
def lastK {α : Type} (p : α -> Bool) : List α -> Option Nat
 | [] => none
 | x :: r => match lastK p r with
   | some i => some (i + 1)
   | none => if p x then some 0 else none
theorem lastK_none {α : Type} {p : α -> Bool} : ∀ {xs : List α}, (∀ x ∈ xs, p x = false) -> lastK p xs = none
 | [], _ => rfl
 | x :: r, h => by
   unfold lastK
   rw [lastK_none (fun y hy => h y (List.mem_cons_of_mem _ hy)), h x List.mem_cons_self]
   rfl
theorem lastK_hit {α : Type} {p : α -> Bool} : ∀ {xs : List α} {k : Nat} (hk : k < xs.length), p xs[k] = true -> (∀ x ∈ xs.drop (k + 1), p x = false) -> lastK p xs = some k
 | x :: r, 0, hk, h1, h2 => by
   unfold lastK
   rw [lastK_none (by simpa using h2)]
   simp at h1
   simp [h1]
 | x :: r, k + 1, hk, h1, h2 => by
   unfold lastK
   rw [lastK_hit (xs := r) (k := k) (by simpa using hk) (by simpa using h1) (by simpa using h2)]
theorem lastK_lt {α : Type} {p : α -> Bool} : ∀ {xs : List α} {k : Nat}, lastK p xs = some k -> k < xs.length
 | [], k, h => by simp [lastK] at h
 | x :: r, k, h => by
   unfold lastK at h
   cases hr : lastK p r with
   | none => rw [hr] at h; simp at h; simp; omega
   | some i => rw [hr] at h; have := lastK_lt hr; simp at h; simp; omega
def savedF (ss : List Sav) (nm : ByteArray) : Option Nat := lastK (fun s => decide (s.nm = nm)) ss
def savedI : Option Nat -> Int
 | some k => k
 | none => -1
theorem ba_ext {x y : ByteArray} (h : x.data.toList = y.data.toList) : x = y := by
 cases x
 cases y
 congr
 exact Array.toList_inj.1 h
theorem sav_at {w : World} {a : Option Addr} {n c : Nat} {us : List Sav} (h : RS 2 CSv 0 w (.slice a n c) us) (hp : 0 < us.length) : ∃ g o, a = some ⟨g, o, none⟩ /\ g < w.heap.size /\ ∀ j (hj : j < us.length), ∃ ea ec, w.cell? ⟨g, o + j * 2, none⟩ = some (.string us[j].nm) /\ w.cell? ⟨g, o + j * 2 + 1, none⟩ = some (.slice ea us[j].cs.length ec) /\ RS 4 CC 0 w (.slice ea us[j].cs.length ec) us[j].cs := by
 obtain ⟨a', c', he, hh⟩ := h
 obtain ⟨g, o, e2, h1, h2, h3⟩ := hh hp
 simp only [Value.slice.injEq] at he
 refine ⟨g, o, he.1.trans e2, h2, fun j hj => ?_⟩
 obtain ⟨cs, hc, hcell⟩ := h3 j hj
 obtain ⟨cv, rfl, hr⟩ := hc
 obtain ⟨ea, ec, he3, hr3⟩ := id hr
 subst he3
 exact ⟨ea, ec, hcell 0 (by omega), hcell 1 (by omega), hr⟩
theorem saved_spec (op : Bool) (md bg : Int) (ov rv : Value) (sa : Option Addr) (sc : Nat) (ss : List Sav) (nm : ByteArray) (w : World) (hn : ss.length <= 1048576) (hs : RS 2 CSv 0 w (.slice sa ss.length sc) ss) :
 Calls Tryz.prog 62 #[.agg #[.bool op, .int .i64 md, .int .i64 bg, ov, rv, .slice sa ss.length sc], .string nm] w fun e w' => e = .returned (.int .i64 (savedI (savedF ss nm))) /\ Below w.heap.size w w' := by
 have HS := hid hs
 have bw := below_alloc w (.cells #[.bool op, .int .i64 md, .int .i64 bg, ov, rv, .slice sa ss.length sc] 70)
 have hw0 : IntKind.i64.wrap ((ss.length : Int) - 1) = (ss.length : Int) - 1 := by simp only [IntKind.wrap_i64, wrap64]; omega
 clear hs
 go_enter Tryz.func62, Tryz.ntmps62
 go_wp2
 obtain ⟨Y, hY⟩ : ∃ x, x = w.alloc (.cells #[.bool op, .int .i64 md, .int .i64 bg, ov, rv, .slice sa ss.length sc] 70) := ⟨_, rfl⟩
 have y5 : Y.cell? ⟨w.heap.size, 5, none⟩ = some (.slice sa ss.length sc) := by rw [hY]; simp
 rw [<- hY] at bw ⊢
 clear hY
 go_loopw [5] (fun iv wr => ∃ k : Nat, k <= ss.length /\ iv = .int .i64 ((k : Int) - 1) /\ Hid (∀ s ∈ ss.drop k, decide (s.nm = nm) = false) /\ wr = Y) (fun iv _ => ((intOf iv) + 1).toNat)
 case atStart => exact ⟨ss.length, Nat.le_refl _, rfl, (fun c h => by simp at h : ∀ s ∈ ss.drop ss.length, decide (s.nm = nm) = false), rfl⟩
 case round =>
  obtain ⟨k, hk, rfl, HO, rfl⟩ := hrel
  by_cases hlt : 0 < k
  .obtain ⟨j, rfl⟩ : ∃ j, k = j + 1 := ⟨k - 1, by omega⟩
   have hjl : j < ss.length := by omega
   have hji : (j : Int) < ss.length := by omega
   have hcast : ((j + 1 : Nat) : Int) - 1 = (j : Int) := by omega
   rw [hcast]
   obtain ⟨g, o, rfl, hg, hgc⟩ := sav_at HS.out (by omega)
   obtain ⟨ea, ec, c0, _, _⟩ := hgc j hjl
   replace c0 := (bw.cell (p := ⟨g, o + j * 2, none⟩) hg).trans c0
   have HST := hid (fun z => drop_step (P := fun s => decide (s.nm = nm) = false) hjl HO.out z)
   have HHT := hid (fun z => lastK_hit (p := fun s => decide (s.nm = nm)) hjl z HO.out)
   have hw1 : IntKind.i64.wrap ((j : Int) - 1) = (j : Int) - 1 := by simp only [IntKind.wrap_i64, wrap64]; omega
   clear hgc HO
   generalize ss[j] = s at c0 HST HHT
   obtain ⟨sn, scs⟩ := s
   simp only at c0 HST HHT
   by_cases h1 : sn = nm
   .have HF : Hid (savedF ss nm = some j) := hid (HHT.out (by simp [h1]))
    subst h1
    clear HST HHT
    go_wp2
    go_ret
    exact ⟨by rw [HF.out]; rfl, bw⟩
   .have HV := hid (HST.out (by simp [h1]))
    have hsb : (sn.toList == nm.toList) = false := by rw [Lib.toList_data, Lib.toList_data, beq_eq_false_iff_ne]; intro z; exact h1 (ba_ext z)
    clear HST HHT h1
    go_wp2
    go_roundw
    case rel => exact ⟨j, by omega, by first | rfl | go_num, HV, by first | rfl | trivial⟩
    case measure => simp [intOf]
  .have hk0 : k = 0 := by omega
   subst hk0
   have HF : Hid (savedF ss nm = none) := hid (lastK_none (by simpa using HO.out))
   clear HO
   go_wp2
   go_ret
   exact ⟨by rw [HF.out]; rfl, bw⟩
structure Opn where
 kd : Int
 ss : Int
 tb : Int
 ky : Int
 vl : Int
 md : Int
 nm : ByteArray
def CO (B : Nat) (w : World) (cs : List Value) (x : Opn) : Prop := cs = [.int .i64 x.kd, .int .i64 x.ss, .int .i64 x.tb, .int .i64 x.ky, .int .i64 x.vl, .int .i64 x.md, .string x.nm]
theorem liesO : Lies 7 CO := ⟨fun h => by rw [h]; rfl, fun h _ => h, fun h _ => h, fun h _ => h⟩
structure Obn where
 code : Int
 vl : Int
 st : Int
 fd : Bool
 ps : List (Int × Int)
def CA (B : Nat) (w : World) (cs : List Value) (x : Obn) : Prop := ∃ pv, cs = [.int .i64 x.code, .int .i64 x.vl, .int .i64 x.st, .bool x.fd, pv] /\ RS 2 CPr B w pv x.ps
theorem liesA : Lies 5 CA :=
 ⟨fun ⟨_, h, _⟩ => by rw [h]; rfl, fun ⟨a, h, r⟩ hd => ⟨a, h, r.mono liesPr hd⟩, fun ⟨a, h, r⟩ hb => ⟨a, h, r.below liesPr hb⟩, fun ⟨a, h, r⟩ hc => ⟨a, h, r.set liesPr hc⟩⟩
def meetP (xs ys : List Int) : Prop := ∃ x ∈ xs, x ∈ ys
theorem rb_yes {P : Program} {F : Nat} {av : Array Value} {w : World} {p : Prop} {Q : World -> Prop} (h : Calls P F av w fun e w' => RB p e /\ Q w') (hp : p) : Calls P F av w fun e w' => e = .returned (.bool true) /\ Q w' :=
 h.mono fun e w' ⟨⟨b, he, hb⟩, hq⟩ => ⟨by rw [he, hb.2 hp], hq⟩
theorem rb_no {P : Program} {F : Nat} {av : Array Value} {w : World} {p : Prop} {Q : World -> Prop} (h : Calls P F av w fun e w' => RB p e /\ Q w') (hp : ¬ p) : Calls P F av w fun e w' => e = .returned (.bool false) /\ Q w' :=
 h.mono fun e w' ⟨⟨b, he, hb⟩, hq⟩ => ⟨by rw [he, Bool.eq_false_iff.2 (fun z => hp (hb.1 z))], hq⟩
theorem take_step {α : Type} {xs : List α} {P : α -> Prop} {k : Nat} (hlt : k < xs.length) (h : ∀ x ∈ xs.take k, P x) (z : P xs[k]) : ∀ x ∈ xs.take (k + 1), P x := fun t ht => by
 rw [show xs.take (k + 1) = xs.take k ++ [xs[k]] by rw [List.take_add_one, List.getElem?_eq_getElem hlt]; rfl] at ht
 rcases List.mem_append.1 ht with h' | h'
 .exact h t h'
 .rw [List.mem_singleton] at h'; rw [h']; exact z
theorem meet_spec (a b : Option Addr) (ca cb : Nat) (xs ys : List Int) (w : World) (hn : xs.length <= 1048576) (hm : ys.length <= 1048576) (ha : RS 1 CI 0 w (.slice a xs.length ca) xs) (hb : RS 1 CI 0 w (.slice b ys.length cb) ys) :
 Calls Tryz.prog 107 #[.slice a xs.length ca, .slice b ys.length cb] w fun e w' => RB (meetP xs ys) e /\ Below w.heap.size w w' := by
 obtain ⟨a', ca', he, hva⟩ := ha
 simp only [Value.slice.injEq] at he
 obtain ⟨rfl, _, rfl⟩ := he
 obtain ⟨b', cb', he, hvb⟩ := hb
 simp only [Value.slice.injEq] at he
 obtain ⟨rfl, _, rfl⟩ := he
 go_enter Tryz.func107, Tryz.ntmps107
 go_wp2
 go_loopw [11] (fun i wr => ∃ k : Nat, k <= xs.length /\ i = .int .i64 k /\ Hid (∀ x ∈ xs.take k, x ∉ ys) /\ Below w.heap.size w wr) (fun i _ => xs.length - (intOf i).toNat)
 case atStart => exact ⟨0, Nat.zero_le _, rfl, (fun x h => by simp at h : ∀ x ∈ xs.take 0, x ∉ ys), Below.refl _ _⟩
 case round =>
  obtain ⟨k, hk, rfl, HO, hbel⟩ := hrel
  have hbs := hbel.size
  by_cases hlt : k < xs.length
  .have hlti : (k : Int) < xs.length := by omega
   obtain ⟨g, o, rfl, _, hg, hgc⟩ := hva (by omega)
   obtain ⟨cs, hC, hcell⟩ := hgc k hlt
   unfold CI at hC
   subst hC
   have c0 : wr.cell? ⟨g, o + k, none⟩ = some (.int .i64 xs[k]) := (hbel.cell (p := ⟨g, o + k, none⟩) hg).trans (by have := hcell 0 (by omega); rw [Nat.mul_one, Nat.add_zero] at this; exact this)
   have HST := hid (take_step (P := fun x => x ∉ ys) hlt HO.out)
   have HY : Hid (xs[k] ∈ ys -> meetP xs ys) := hid (fun h => ⟨_, List.getElem_mem hlt, h⟩)
   clear hgc hva hcell HO
   generalize xs[k] = x at c0 HST HY
   go_wp2
   go_loopw [17] (fun j wr => ∃ l : Nat, l <= ys.length /\ j = .int .i64 l /\ Hid (∀ y ∈ ys.take l, x ≠ y) /\ Below w.heap.size w wr) (fun j _ => ys.length - (intOf j).toNat)
   case atStart => exact ⟨0, Nat.zero_le _, rfl, (fun y h => by simp at h : ∀ y ∈ ys.take 0, x ≠ y), hbel⟩
   case round =>
    obtain ⟨l, hl, rfl, HP, hbel2⟩ := hrel
    clear hbel
    by_cases hlt2 : l < ys.length
    .have hlti2 : (l : Int) < ys.length := by omega
     obtain ⟨g2, o2, rfl, _, hg2, hgc2⟩ := hvb (by omega)
     obtain ⟨ds, hD, hcell2⟩ := hgc2 l hlt2
     unfold CI at hD
     subst hD
     have d0 : wr.cell? ⟨g2, o2 + l, none⟩ = some (.int .i64 ys[l]) := (hbel2.cell (p := ⟨g2, o2 + l, none⟩) hg2).trans (by have := hcell2 0 (by omega); rw [Nat.mul_one, Nat.add_zero] at this; exact this)
     have HSU := hid (take_step (P := fun y => x ≠ y) hlt2 HP.out)
     have HYY : Hid (x = ys[l] -> meetP xs ys) := hid (fun h => HY.out (h ▸ List.getElem_mem hlt2))
     clear hgc2 hvb hcell2 HP HY
     generalize ys[l] = y at d0 HSU HYY
     by_cases hxy : x = y
     .have HT := hid (HYY.out hxy)
      clear HYY HSU
      go_wp2
      go_ret
      exact ⟨rb_t HT.out, hbel2⟩
     .have HV := hid (HSU.out hxy)
      clear HYY HSU
      go_wp2
      go_roundw
      case rel => exact ⟨l + 1, by omega, by go_num, HV, hbel2⟩
      case measure => simp [intOf]; omega
    .have hln : l = ys.length := by omega
     subst hln
     have hlti2 : ¬ (ys.length : Int) < ys.length := by omega
     have HV := hid (HST.out (fun h => by have := HP.out; rw [List.take_length] at this; exact this x h rfl))
     clear HP HY HST
     go_wp2
     go_roundw
     case rel => exact ⟨k + 1, by omega, by go_num, HV, hbel2⟩
     case measure => simp [intOf]; omega
  .have hkn : k = xs.length := by omega
   subst hkn
   have hlti : ¬ (xs.length : Int) < xs.length := by omega
   have HF : Hid (¬ meetP xs ys) := hid (fun ⟨x, h1, h2⟩ => by have := HO.out; rw [List.take_length] at this; exact this x h1 h2)
   clear HO
   go_wp2
   go_ret
   exact ⟨rb_f HF.out, hbel⟩
def leadsP (s t : TI) : Prop := s.bgn < t.com /\ t.bgn < s.com /\ meetP s.reads t.writes
theorem leads_spec (s t : TI) (cs ds : List Value) (w : World) (hs : BT 1048576 s) (ht : BT 1048576 t) (hC : CT 0 w cs s) (hD : CT 0 w ds t) :
 Calls Tryz.prog 95 #[.agg cs.toArray, .agg ds.toArray] w fun e w' => RB (leadsP s t) e /\ Below w.heap.size w w' := by
 obtain ⟨v0, v1, rfl, r0, r1⟩ := hC
 have R0 := hid r0
 obtain ⟨a0, q0, rfl, _⟩ := r0
 have R1 := hid r1
 obtain ⟨a1, q1, rfl, _⟩ := r1
 obtain ⟨xv0, xv1, rfl, xr0, xr1⟩ := hD
 have S0 := hid xr0
 obtain ⟨xa0, xq0, rfl, _⟩ := xr0
 have S1 := hid xr1
 obtain ⟨xa1, xq1, rfl, _⟩ := xr1
 have bw : Below w.heap.size w ((w.alloc (.cells #[.int .i64 s.bgn, .int .i64 s.com, .slice a0 s.reads.length q0, .slice a1 s.writes.length q1] 131)).alloc (.cells #[.int .i64 t.bgn, .int .i64 t.com, .slice xa0 t.reads.length xq0, .slice xa1 t.writes.length xq1] 131)) := (below_alloc w _).alloc (by simp) _
 by_cases h1 : s.bgn < t.com
 .by_cases h2 : t.bgn < s.com
  .have hcn := meet_spec _ _ _ _ s.reads t.writes ((w.alloc (.cells #[.int .i64 s.bgn, .int .i64 s.com, .slice a0 s.reads.length q0, .slice a1 s.writes.length q1] 131)).alloc (.cells #[.int .i64 t.bgn, .int .i64 t.com, .slice xa0 t.reads.length xq0, .slice xa1 t.writes.length xq1] 131)) hs.1 ht.2 (R0.out.below liesI bw) (S1.out.below liesI bw)
   have HP : Hid (meetP s.reads t.writes ↔ leadsP s t) := hid (⟨fun h => ⟨h1, h2, h⟩, fun h => h.2.2⟩)
   go_enter Tryz.func95, Tryz.ntmps95
   go_wp2_with (go_at_call 107; fail)
   refine hcn.mono ?_
   rintro e w1 ⟨⟨r, rfl, hr⟩, hb'⟩
   have bw1 : Below w.heap.size w w1 := bw.trans (hb'.mono bw.size)
   have HRB : Hid (RB (leadsP s t) (.returned (.bool r))) := ⟨r, rfl, hr.trans HP.out⟩
   clear hb' hcn hr HP
   go_wp2
   go_ret
   exact ⟨HRB.out, bw1⟩
  .have HF : Hid (¬ leadsP s t) := hid (fun h => h2 h.2.1)
   go_enter Tryz.func95, Tryz.ntmps95
   go_wp2
   go_ret
   exact ⟨rb_f HF.out, bw⟩
 .have HF : Hid (¬ leadsP s t) := hid (fun h => h1 h.1)
  go_enter Tryz.func95, Tryz.ntmps95
  go_wp2
  go_ret
  exact ⟨rb_f HF.out, bw⟩
def tabAt (l : List Int) (i : Nat) : Prop := 0 <= l.getD i 0 /\ l.getD i 0 < 32 /\ (0 < i -> l.getD (i - 1) 0 < l.getD i 0)
def tabP (l : List Int) : Prop := l.length <= 32 /\ ∀ i, i < l.length -> tabAt l i
theorem getD_at {l : List Int} {k : Nat} (h : k < l.length) : l.getD k 0 = l[k] := by rw [List.getD_eq_getElem?_getD, List.getElem?_eq_getElem h]; rfl
theorem tables_spec (a : Option Addr) (ca : Nat) (xs : List Int) (w : World) (hn : xs.length <= 1048576) (ha : RS 1 CI 0 w (.slice a xs.length ca) xs) :
 Calls Tryz.prog 94 #[.slice a xs.length ca] w fun e w' => RB (tabP xs) e /\ w' = w := by
 by_cases hbig : (32 : Int) < xs.length
 .have HF : Hid (¬ tabP xs) := hid (fun h => by have := h.1; omega)
  clear ha
  go_enter Tryz.func94, Tryz.ntmps94
  go_wp2
  go_ret
  exact ⟨rb_f HF.out, rfl⟩
 obtain ⟨a', ca', he, hva⟩ := ha
 simp only [Value.slice.injEq] at he
 obtain ⟨rfl, _, rfl⟩ := he
 go_enter Tryz.func94, Tryz.ntmps94
 go_wp2
 go_loopw [10] (fun i wr => ∃ k : Nat, k <= xs.length /\ i = .int .i64 k /\ Hid (∀ j, j < k -> tabAt xs j) /\ wr = w) (fun i _ => xs.length - (intOf i).toNat)
 case atStart => exact ⟨0, Nat.zero_le _, rfl, (fun x h => absurd h (Nat.not_lt_zero _) : ∀ j, j < 0 -> tabAt xs j), rfl⟩
 case round =>
  obtain ⟨k, hk, rfl, HO, hww⟩ := hrel
  replace hww := hww.symm
  subst hww
  by_cases hlt : k < xs.length
  .have hlti : (k : Int) < xs.length := by omega
   obtain ⟨g, o, rfl, _, hg, hgc⟩ := hva (by omega)
   obtain ⟨cs, hC, hcell⟩ := hgc k hlt
   unfold CI at hC
   subst hC
   have c0 : w.cell? ⟨g, o + k, none⟩ = some (.int .i64 xs[k]) := ((Below.refl _ w).cell (p := ⟨g, o + k, none⟩) hg).trans (by have := hcell 0 (by omega); rw [Nat.mul_one, Nat.add_zero] at this; exact this)
   have HST : Hid (tabAt xs k -> ∀ j, j < k + 1 -> tabAt xs j) := hid (fun z j hj => by
    by_cases e : j = k
    .subst e; exact z
    .exact HO.out j (by omega))
   have HNo : Hid (¬ tabAt xs k -> ¬ tabP xs) := hid (fun z h => z (h.2 k hlt))
   have HD := hid (getD_at hlt)
   clear hcell HO
   generalize hx : xs[k] = x at c0 HD
   clear hx
   by_cases h0 : x < 0
   .have HF := hid (HNo.out (fun h => by have := h.1; rw [HD.out] at this; omega))
    clear hgc hva HST HNo HD
    go_wp2
    go_ret
    exact ⟨rb_f HF.out, rfl⟩
   by_cases h1 : 32 <= x
   .have HF := hid (HNo.out (fun h => by have := h.2.1; rw [HD.out] at this; omega))
    clear hgc hva HST HNo HD
    go_wp2
    go_ret
    exact ⟨rb_f HF.out, rfl⟩
   by_cases hk0 : (0 : Int) < k
   .obtain ⟨ds, hE, hcell2⟩ := hgc (k - 1) (by omega)
    unfold CI at hE
    subst hE
    have d0 : w.cell? ⟨g, o + (k - 1), none⟩ = some (.int .i64 xs[k - 1]) := ((Below.refl _ w).cell (p := ⟨g, o + (k - 1), none⟩) hg).trans (by have := hcell2 0 (by omega); rw [Nat.mul_one, Nat.add_zero] at this; exact this)
    have HE := hid (getD_at (show k - 1 < xs.length by omega))
    have hw : IntKind.i64.wrap ((k : Int) - 1) = ((k - 1 : Nat) : Int) := by simp only [IntKind.wrap_i64, wrap64]; omega
    have hk1 : ((k - 1 : Nat) : Int) < xs.length := by omega
    clear hgc hva hcell2
    generalize hy : xs[k - 1] = y at d0 HE
    clear hy
    generalize hkp : k - 1 = kp at d0 HE hw hk1
    by_cases h2 : x <= y
    .have HF := hid (HNo.out (fun h => by have := h.2.2 (by omega); rw [HD.out, hkp, HE.out] at this; omega))
     clear HST HNo HD HE hkp
     go_wp2
     go_ret
     exact ⟨rb_f HF.out, rfl⟩
    .have HV := hid (HST.out ⟨by rw [HD.out]; omega, by rw [HD.out]; omega, fun _ => by rw [HD.out, hkp, HE.out]; omega⟩)
     clear HST HNo HD HE hkp
     go_wp2
     go_roundw
     case rel => exact ⟨k + 1, by omega, by go_num, HV, by first | exact rfl | trivial⟩
     case measure => simp [intOf]; omega
   .have HV := hid (HST.out ⟨by rw [HD.out]; omega, by rw [HD.out]; omega, fun z => by omega⟩)
    clear HST HNo HD hgc hva
    go_wp2
    go_roundw
    case rel => exact ⟨k + 1, by omega, by go_num, HV, by first | exact rfl | trivial⟩
    case measure => simp [intOf]; omega
  .have hkn : k = xs.length := by omega
   subst hkn
   have hlti : ¬ (xs.length : Int) < xs.length := by omega
   have HT : Hid (tabP xs) := hid (⟨by omega, HO.out⟩)
   clear HO
   go_wp2
   go_ret
   exact ⟨rb_t HT.out, rfl⟩
end Go.Proofs.YtblkgicbimflhaaGreat
