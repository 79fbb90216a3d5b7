import Derived.Test.YtblkgicbimflhaaGreatQAB
import Derived.Lib.Strings
namespace Go.Proofs.YtblkgicbimflhaaGreat
open Go.ChangeShapes Go.WideShapes Go.ChangeAt Go.RowKit
set_option linter.unusedVariables false
set_option linter.unusedSimpArgs false
set_option maxRecDepth 100000
set_option maxHeartbeats 16000000
def insK (out : List Int) (k : Int) : List Int :=
 if (out.dropWhile (fun x => decide (x < k))).head? = some k then out else out.takeWhile (fun x => decide (x < k)) ++ k :: out.dropWhile (fun x => decide (x < k))
theorem cut_at {out : List Int} {k : Int} : ∀ {j : Nat}, j <= out.length -> (∀ i (h : i < out.length), i < j -> out[i] < k) -> (∀ h : j < out.length, ¬ out[j] < k) -> out.takeWhile (fun x => decide (x < k)) = out.take j /\ out.dropWhile (fun x => decide (x < k)) = out.drop j := by
 induction out with
 | nil => intro j hj _ _; simp
 | cons a r ih =>
   intro j hj h1 h2
   cases j with
   | zero =>
     have hn : ¬ a < k := h2 (by simp)
     simp [List.takeWhile_cons, List.dropWhile_cons, hn]
   | succ j =>
     have ha : a < k := h1 0 (by simp) (by omega)
     have hr := ih (j := j) (by simpa using hj) (fun i hi hij => h1 (i + 1) (by simpa using hi) (by omega)) (fun h => h2 (by simpa using h))
     simp [ha, hr.1, hr.2]
theorem insK_new {out : List Int} {k : Int} {j : Nat} (hj : j <= out.length) (h1 : ∀ i (h : i < out.length), i < j -> out[i] < k) (h2 : ∀ h : j < out.length, k < out[j]) : insK out k = out.take j ++ [k] ++ out.drop j := by
 obtain ⟨e1, e2⟩ := cut_at hj h1 (fun h => by have := h2 h; omega)
 unfold insK
 rw [e1, e2]
 have : ¬ (out.drop j).head? = some k := by
  rw [List.head?_drop]
  intro e
  obtain ⟨hl, he⟩ := List.getElem?_eq_some_iff.1 e
  have := h2 hl
  omega
 rw [if_neg this]
 simp
theorem insK_there {out : List Int} {k : Int} {j : Nat} (hj : j < out.length) (h1 : ∀ i (h : i < out.length), i < j -> out[i] < k) (h2 : out[j] = k) : insK out k = out := by
 obtain ⟨e1, e2⟩ := cut_at (Nat.le_of_lt hj) h1 (fun h => by omega)
 unfold insK
 rw [e2, List.head?_drop, List.getElem?_eq_getElem hj, h2, if_pos rfl]
theorem insK_len (out : List Int) (k : Int) : (insK out k).length <= out.length + 1 := by
 unfold insK
 split
 .omega
 .rw [List.length_append, List.length_cons]
  have := congrArg List.length (List.takeWhile_append_dropWhile (p := fun x => decide (x < k)) (l := out))
  rw [List.length_append] at this
  omega
def putK (tb : Int) (out : List Int) (c : Cel) : List Int := if c.tb = tb then insK out c.ky else out
def foldK (tb : Int) (cs : List Cel) : List Int := cs.foldl (putK tb) []
theorem foldK_step {tb : Int} {cs : List Cel} {k : Nat} (h : k < cs.length) : foldK tb (cs.take (k + 1)) = putK tb (foldK tb (cs.take k)) cs[k] := by
 unfold foldK
 rw [show cs.take (k + 1) = cs.take k ++ [cs[k]] by rw [List.take_add_one, List.getElem?_eq_getElem h]; rfl, List.foldl_append]
 rfl
theorem foldK_len (tb : Int) : ∀ (cs : List Cel), (foldK tb cs).length <= cs.length := by
 intro cs
 have key : ∀ (cs : List Cel) (out : List Int), (cs.foldl (putK tb) out).length <= out.length + cs.length := by
  intro cs
  induction cs with
  | nil => intro out; simp
  | cons c r ih =>
    intro out
    rw [List.foldl_cons, List.length_cons]
    have h1 := ih (putK tb out c)
    have h2 : (putK tb out c).length <= out.length + 1 := by unfold putK; split; exact insK_len _ _; omega
    omega
 have := key cs []
 simpa [foldK] using this
def allC (cms : List Com) (own : List Cel) : List Cel := own ++ cms.flatMap (·.cs)
def keysF (cms : List Com) (own : List Cel) (tb : Int) : List Int := foldK tb (allC cms own)
theorem allC_step {cms : List Com} {own : List Cel} {k : Nat} (h : k < cms.length) : allC (cms.take (k + 1)) own = allC (cms.take k) own ++ cms[k].cs := by
 unfold allC
 rw [show cms.take (k + 1) = cms.take k ++ [cms[k]] by rw [List.take_add_one, List.getElem?_eq_getElem h]; rfl, List.flatMap_append]
 simp
theorem allC_le {cms : List Com} {own : List Cel} {k : Nat} : (allC (cms.take k) own).length <= (allC cms own).length := by
 unfold allC
 rw [List.length_append, List.length_append]
 have : (cms.flatMap (·.cs)) = ((cms.take k).flatMap (·.cs)) ++ ((cms.drop k).flatMap (·.cs)) := by rw [<- List.flatMap_append, List.take_append_drop]
 rw [this, List.length_append]
 omega
theorem infoCel : (Tryz.prog.info? 106).map (fun i => (i.zero, i.size, i.bytes)) = some (some (.agg #[.int .i64 0, .int .i64 0, .int .i64 0, .bool false]), 4, 32) := by kernel_rfl
theorem part_rs {b : Nat} {w : World} {a : Option Addr} {c : Nat} {xs : List Int} (h : RS 1 CI b w (.slice a xs.length c) xs) (j : Nat) (hj : j <= xs.length) : RS 1 CI b w (.slice a (xs.take j).length c) (xs.take j) := by
 obtain ⟨a', c', he, hh⟩ := h
 simp only [Value.slice.injEq] at he
 obtain ⟨rfl, _, rfl⟩ := he
 refine ⟨a, c, rfl, fun hp => ?_⟩
 rw [List.length_take] at hp
 obtain ⟨g, o, e2, h1, h2, h3⟩ := hh (by omega)
 refine ⟨g, o, e2, h1, h2, fun i hi => ?_⟩
 rw [List.length_take] at hi
 obtain ⟨cs, x, y⟩ := h3 i (by omega)
 exact ⟨cs, by rw [List.getElem_take]; exact x, y⟩
theorem rest_rs {b g o : Nat} {w : World} {c d : Nat} {xs : List Int} (h : RS 1 CI b w (.slice (some ⟨g, o, none⟩) xs.length c) xs) (j : Nat) (hj : j <= xs.length) : RS 1 CI b w (.slice (some ⟨g, o + j, none⟩) (xs.drop j).length d) (xs.drop j) := by
 obtain ⟨a', c', he, hh⟩ := h
 simp only [Value.slice.injEq] at he
 obtain ⟨rfl, _, rfl⟩ := he
 refine ⟨_, d, rfl, fun hp => ?_⟩
 rw [List.length_drop] at hp
 obtain ⟨g', o', e2, h1, h2, h3⟩ := hh (by omega)
 cases e2
 refine ⟨g, o + j, rfl, h1, h2, fun i hi => ?_⟩
 rw [List.length_drop] at hi
 obtain ⟨cs, x, y⟩ := h3 (j + i) (by omega)
 refine ⟨cs, by rw [List.getElem_drop]; exact x, fun q hq => ?_⟩
 have := y q hq
 rw [show o + j + i * 1 + q = o + (j + i) * 1 + q by omega]
 exact this
theorem own_base0 {w : World} {b e k n : Nat} {v : Value} {xs : List Value} (h : w.ownsRow b e k v n xs) : w.ownsRow 0 e k v n xs := by
 obtain ⟨h1, h2⟩ := h
 refine ⟨h1, ?_⟩
 rcases h2 with h2 | ⟨g, cap, cur, rfl, hg1, hg2⟩
 .exact .inl h2
 .exact .inr ⟨g, cap, cur, rfl, Nat.zero_le _, hg2⟩
theorem fillC {B B' k : Nat} {us : List Cel} {xs : List Value} {w w' : World} (h : Fill 4 CC B us k xs w) : Fill 4 CC B' us k xs w' := ⟨h.1, fun i hi hk => h.2 i hi hk⟩
theorem formR {b e k n : Nat} {w : World} {v : Value} {xs : List Value} (h : w.ownsRow b e k v n xs) : ∃ a c, v = .slice a n c := by
 obtain ⟨_, h2⟩ := h
 rcases h2 with ⟨rfl, h0⟩ | ⟨q, cap, cur, rfl, _⟩
 .exact ⟨none, 0, by rw [h0]⟩
 .exact ⟨_, _, rfl⟩
theorem one_rs (W : World) (k : Int) (b : Nat) (hb : b = W.heap.size) : RS 1 CI 0 (W.alloc (.cells #[.int .i64 k] 3)) (.slice (some ⟨b, 0, none⟩) [k].length 1) [k] := by
 subst hb
 refine ⟨_, _, rfl, fun _ => ⟨W.heap.size, 0, rfl, Nat.zero_le _, by simp, fun i hi => ⟨[.int .i64 k], ?_, fun j hj => ?_⟩⟩⟩
 .have : i = 0 := by simp at hi; omega
  subst this
  rfl
 .have : i = 0 := by simp at hi; omega
  subst this
  have hj0 : j = 0 := by omega
  subst hj0
  simp
theorem IGr.capI {b : Nat} {w : World} {xs : List Int} {oa : Option Addr} {oc : Nat} (h : IGr b w (.slice oa xs.length oc) xs) : xs.length <= oc := by
 obtain ⟨_, h2⟩ := h
 rcases h2 with ⟨e, h0⟩ | ⟨q, cap, cur, e, _, _, h3, _⟩
 .omega
 .simp only [Value.slice.injEq] at e
  omega
theorem blk_rs {W : World} {k : Int} {b : Nat} (h : Blk W b [.int .i64 k]) (hb : b < W.heap.size) : RS 1 CI 0 W (.slice (some ⟨b, 0, none⟩) [k].length 1) [k] := by
 refine ⟨_, _, rfl, fun _ => ⟨b, 0, rfl, Nat.zero_le _, hb, fun i hi => ⟨[.int .i64 k], ?_, fun j hj => ?_⟩⟩⟩
 .have : i = 0 := by simp at hi; omega
  subst this
  rfl
 .have : i = 0 := by simp at hi; omega
  subst this
  have := (h j (by simpa using hj)).1
  simpa using this
theorem KTB1 {Z w1 : World} {k : Int} {row : Option Nat} (h : ((Z.alloc (.cells #[] 3)).alloc (.cells #[.int .i64 k] 3)).drew.grownBy w1 row) (hr : some (Z.heap.size + 1) ≠ row) : RS 1 CI 0 w1 (.slice (some ⟨Z.heap.size + 1, 0, none⟩) [k].length 1) [k] := by
 have h1 := blk_new (Z.alloc (.cells #[] 3)) [.int .i64 k] 3
 rw [show (Z.alloc (.cells #[] 3)).heap.size = Z.heap.size + 1 by simp] at h1
 exact blk_rs ((h1.below (Below.refl _ _).drew (by simp)).grown h (by simp) hr) (Nat.lt_of_lt_of_le (by simp) h.size)
theorem KTC1 {Z w1 : World} {k : Int} {row : Option Nat} (h : ((Z.alloc (.cells #[.int .i64 k] 3)).alloc (.cells #[] 3)).drew.grownBy w1 row) (hr : some Z.heap.size ≠ row) : RS 1 CI 0 w1 (.slice (some ⟨Z.heap.size, 0, none⟩) [k].length 1) [k] := by
 have h1 := (blk_new Z [.int .i64 k] 3).below (below_alloc _ (.cells #[] 3)) (by simp)
 exact blk_rs ((h1.below (Below.refl _ _).drew (by simp; omega)).grown h (by simp; omega) hr) (Nat.lt_of_lt_of_le (by simp; omega) h.size)
theorem fill_ints {B : Nat} {w : World} {us : List Int} {xs : List Value} (h : Fill 1 CI B us us.length xs w) : xs = us.map (Value.int .i64) := by
 apply List.ext_getElem?
 intro i
 by_cases hi : i < us.length
 .obtain ⟨cs, hc, hj⟩ := h.2 i hi hi
  have := hj 0 (by omega)
  cases hc
  rw [Nat.mul_one, Nat.add_zero] at this
  rw [this, List.getElem?_map, List.getElem?_eq_getElem hi]
  rfl
 .have h1 : xs.length = us.length := by rw [h.1, Nat.mul_one]
  rw [List.getElem?_eq_none (by omega), List.getElem?_eq_none (by rw [List.length_map]; omega)]
theorem row3 {W w : World} {b : Nat} {v : Value} {xs ys zs : List Int} {n1 n2 n3 : List Value} {w1 w2 w3 : World} {B1 B2 B3 : Nat} (h : w.ownsRow b 3 1 v (0 + xs.length + ys.length + zs.length) ([] ++ n1 ++ n2 ++ n3)) (f1 : Fill 1 CI B1 xs xs.length n1 w1) (f2 : Fill 1 CI B2 ys ys.length n2 w2) (f3 : Fill 1 CI B3 zs zs.length n3 w3) (hb : W.heap.size <= b) (hn : v ≠ .slice none 0 0) : ∃ g c, v = .slice (some ⟨g, 0, none⟩) (xs ++ ys ++ zs).length c /\ IGr W.heap.size w (.slice (some ⟨g, 0, none⟩) (xs ++ ys ++ zs).length c) (xs ++ ys ++ zs) := by
 have e1 := fill_ints f1
 have e2 := fill_ints f2
 have e3 := fill_ints f3
 have hl : (xs ++ ys ++ zs).length = 0 + xs.length + ys.length + zs.length := by simp; omega
 obtain ⟨h1, h2⟩ := h
 rcases h2 with ⟨e, _⟩ | ⟨g, cap, cur, rfl, hg, hr⟩
 .exact absurd e hn
 .refine ⟨g, cap, by rw [hl], ?_⟩
  unfold IGr
  rw [hl]
  refine ⟨by simp; omega, .inr ⟨g, cap, cur, rfl, Nat.le_trans hb hg, ?_⟩⟩
  rw [show (xs ++ ys ++ zs).map (Value.int .i64) = [] ++ n1 ++ n2 ++ n3 by rw [e1, e2, e3]; simp]
  exact hr
theorem keys_spec (bb : Nat) (ck : Int) (ma : Option Addr) (mc : Nat) (hv tv rv sv : Value) (op : Bool) (md bg : Int) (oa : Option Addr) (oc : Nat) (cms : List Com) (own : List Cel) (tb : Int) (w : World) (hm : BM cms) (ht : (allC cms own).length <= 1048576) (hbb : bb < w.heap.size)
 (hB : Blk w bb [.int .i64 ck, .slice ma cms.length mc, hv, tv]) (hms : RS 2 CCm 0 w (.slice ma cms.length mc) cms) (hown : RS 4 CC 0 w (.slice oa own.length oc) own) :
 Calls Tryz.prog 58 #[.pointer (some ⟨bb, 0, none⟩), .agg #[.bool op, .int .i64 md, .int .i64 bg, .slice oa own.length oc, rv, sv], .int .i64 tb] w fun e w' => ∃ (a : Option Addr) (c : Nat), e = .returned (.slice a (keysF cms own tb).length c) /\ RS 1 CI w.heap.size w' (.slice a (keysF cms own tb).length c) (keysF cms own tb) /\ Below w.heap.size w w' := by
 obtain ⟨i0, hi, hz0, hz1, hz2⟩ := info_parts infoInt
 obtain ⟨j0, hj, hy0, hy1, hy2⟩ := info_parts infoCel
 have bw := below_alloc w (.cells #[.bool op, .int .i64 md, .int .i64 bg, .slice oa own.length oc, rv, sv] 70)
 have bw2 : Below w.heap.size w ((w.alloc (.cells #[.bool op, .int .i64 md, .int .i64 bg, .slice oa own.length oc, rv, sv] 70)).alloc (.cells #[] 106)) := bw.alloc bw.size _
 have HO1 : Hid (((w.alloc (.cells #[.bool op, .int .i64 md, .int .i64 bg, .slice oa own.length oc, rv, sv] 70)).alloc (.cells #[] 106)).ownsRow w.heap.size 106 4 (.slice (some ⟨w.heap.size + 1, 0, none⟩) 0 0) 0 []) := hid (by
  have := World.ownsRow_made (base := w.heap.size) (e := 106) (size := 4) (w.alloc (.cells #[.bool op, .int .i64 md, .int .i64 bg, .slice oa own.length oc, rv, sv] 70)) #[] 0 (by simp) (by unfold maxLen; omega) (by simp)
  simpa using this)
 have b1 : w.cell? ⟨bb, 1, none⟩ = some (.slice ma cms.length mc) := (hB 1 (by simp)).1
 have HMS := hid hms
 have HOW := hid hown
 have hml := hm.1
 have hol : own.length <= 1048576 := by unfold allC at ht; rw [List.length_append] at ht; omega
 have HT := hid ht
 clear hown hB hms hm ht
 go_enter Tryz.func58, Tryz.ntmps58
 go_wp2_with (at_builtin; go_loud (refine wpList_append_rs liesC oneC _ rfl (.tmp 14) (.tmp 16) 67 rfl w.heap.size 106 j0 _ 32 Tryz.underlying67 hj hy0 hy1 hy2 rfl (by decide) _ 0 [] rfl HO1.out oa oc own rfl (HOW.out.below liesC bw2) (by unfold maxLen; omega) (by omega) (by simp; omega) ?_; intro news v' w' hfill hown hgrow _; have bw3 : Below w.heap.size w w' := bw2.grown hgrow bw2.size (fun q hq => (HO1.out.lt q hq).1); have HFI : Hid (Fill 4 CC 0 own own.length news w) := fillC hfill; obtain ⟨la, lc, hlv⟩ := formR hown; subst hlv; rw [Nat.zero_add, List.nil_append] at hown; have HRO := hid hown; clear hown hgrow hfill; have b1 : w'.cell? ⟨bb, 1, none⟩ = some (.slice ma cms.length mc) := (bw3.cell (p := ⟨bb, 1, none⟩) hbb).trans b1))
 clear b1
 go_loopw [7, 23] (fun lv iv wr => ∃ (k : Nat) (us : List Cel) (xs : List Value) (la : Option Addr) (lc : Nat), k <= cms.length /\ iv = .int .i64 k /\ lv = .slice la us.length lc /\ Hid (us = allC (cms.take k) own) /\ Hid (wr.ownsRow w.heap.size 106 4 (.slice la us.length lc) us.length xs) /\ Hid (Fill 4 CC 0 us us.length xs w) /\ Below w.heap.size w wr) (fun _ iv _ => cms.length - (intOf iv).toNat)
 case atStart => exact ⟨0, own, news, la, lc, Nat.zero_le _, rfl, rfl, (by simp [allC] : own = allC (cms.take 0) own), HRO, HFI, bw3⟩
 case round =>
  clear HRO HFI bw3 bw2 bw HO1
  obtain ⟨k, us, xs, la, lc, hk, rfl, rfl, HU, HRO, HFI, hbel⟩ := hrel
  have hbs := hbel.size
  have hul : us.length <= 1048576 := by rw [HU.out]; exact Nat.le_trans allC_le HT.out
  by_cases hlt : k < cms.length
  .have hlti : (k : Int) < cms.length := by omega
   obtain ⟨g, o, rfl, hg, hgc⟩ := com_at HMS.out (by omega)
   obtain ⟨ea, ec, c0, c1, hrc⟩ := hgc k hlt
   have HAS := hid (allC_step (own := own) hlt)
   have HRC := hid hrc
   have hle : us.length + cms[k].cs.length <= 1048576 := by
    have := Nat.le_trans (allC_le (cms := cms) (own := own) (k := k + 1)) HT.out
    rw [HAS.out, List.length_append, <- HU.out] at this
    exact this
   clear hgc hrc
   generalize cms[k] = m at c0 c1 HAS HRC hle
   replace c0 := (hbel.cell (p := ⟨g, o + k * 2, none⟩) hg).trans c0
   replace c1 := (hbel.cell (p := ⟨g, o + k * 2 + 1, none⟩) hg).trans c1
   have bwA : Below w.heap.size w (wr.alloc (.cells #[.int .i64 m.st, .slice ea m.cs.length ec] 140)) := hbel.alloc hbs _
   have HOA := hid (own_below HRO.out (below_alloc wr (.cells #[.int .i64 m.st, .slice ea m.cs.length ec] 140)))
   clear HRO
   go_wp2_with (at_builtin; refine wpList_append_rs liesC oneC _ rfl (.tmp 27) (.tmp 29) 67 rfl w.heap.size 106 j0 _ 32 Tryz.underlying67 hj hy0 hy1 hy2 rfl (by decide) _ us.length xs rfl HOA.out ea ec m.cs rfl (HRC.out.below liesC bwA) (by unfold maxLen; omega) (by omega) (by simp; omega) ?_; intro news v' w' hfill hown hgrow _; have bw3 : Below w.heap.size w w' := bwA.grown hgrow bwA.size (fun q hq => (HOA.out.lt q hq).1); have HFN : Hid (Fill 4 CC 0 (us ++ m.cs) (us ++ m.cs).length (xs ++ news) w) := HFI.out.append (fillC hfill); obtain ⟨na, nc, hlv⟩ := formR hown; subst hlv; have HRN := hid hown; clear hown hgrow hfill)
   go_roundw
   case rel => exact ⟨k + 1, us ++ m.cs, _, na, nc, by omega, by go_num, by rw [List.length_append], (by rw [HAS.out, <- HU.out] : us ++ m.cs = allC (cms.take (k + 1)) own), hid (by rw [List.length_append]; exact HRN.out), HFN, bw3⟩
   case measure => simp [intOf]; omega
  .have hkn : k = cms.length := by omega
   subst hkn
   have hlti : ¬ (cms.length : Int) < cms.length := by omega
   rw [List.take_length] at HU
   have HRS : Hid (RS 4 CC 0 wr (.slice la us.length lc) us) := (Fill.own liesC (fillC (B' := 0) (w' := wr) HFI.out) (own_base0 HRO.out) (Nat.le_refl _))
   have OR : Hid (IGr wr.heap.size (wr.alloc (.cells #[] 3)) (.slice (some ⟨wr.heap.size, 0, none⟩) ([] : List Int).length 0) []) := World.ownsRow_made wr #[] 0 (Nat.le_refl _) (by unfold maxLen; omega) (by simp)
   have bA := below_alloc wr (.cells #[] 3)
   have HKF : Hid (keysF cms own tb = foldK tb us) := hid (by unfold keysF; rw [<- HU.out])
   clear HRO HFI HU
   go_wp2
   obtain ⟨W, hW⟩ : ∃ x, x = wr := ⟨_, rfl⟩
   subst hW
   go_loopw [10, 35] (fun ov iv wx => ∃ (k : Nat) (out : List Int) (qg qc : Nat), k <= us.length /\ iv = .int .i64 k /\ ov = .slice (some ⟨qg, 0, none⟩) out.length qc /\ Hid (out = foldK tb (us.take k)) /\ Hid (IGr W.heap.size wx (.slice (some ⟨qg, 0, none⟩) out.length qc) out) /\ Below W.heap.size W wx) (fun _ iv _ => us.length - (intOf iv).toNat)
   case atStart => exact ⟨0, [], _, 0, Nat.zero_le _, rfl, rfl, (by simp [foldK] : ([] : List Int) = foldK tb (us.take 0)), OR, bA⟩
   case round =>
    clear OR bA
    obtain ⟨k, out, qg, qc, hk, rfl, rfl, HOE, HOR, hbx⟩ := hrel
    have hxs := hbx.size
    have hoL : out.length <= 1048576 := by rw [HOE.out]; exact Nat.le_trans (foldK_len _ _) (by rw [List.length_take]; omega)
    by_cases hlt : k < us.length
    .have hlti : (k : Int) < us.length := by omega
     obtain ⟨g, o, rfl, _, hg, hgc⟩ := cel_at HRS.out (by omega)
     obtain ⟨c0, c1, c2, c3⟩ := hgc k hlt
     have HFS := hid (foldK_step (tb := tb) hlt)
     clear hgc
     generalize us[k] = c at c0 c1 c2 c3 HFS
     obtain ⟨ct, cky, cv, cg⟩ := c
     simp only at c0 c1 c2 c3
     replace c0 := (hbx.cell (p := ⟨g, o + k * 4, none⟩) hg).trans c0
     replace c1 := (hbx.cell (p := ⟨g, o + k * 4 + 1, none⟩) hg).trans c1
     replace c2 := (hbx.cell (p := ⟨g, o + k * 4 + 2, none⟩) hg).trans c2
     replace c3 := (hbx.cell (p := ⟨g, o + k * 4 + 3, none⟩) hg).trans c3
     have hgw : g < wr.heap.size := by omega
     have bwA : Below W.heap.size W (wr.alloc (.cells #[.int .i64 ct, .int .i64 cky, .int .i64 cv, .bool cg] 106)) := hbx.alloc hxs _
     have KC := hid (blk_new wr [.int .i64 ct, .int .i64 cky, .int .i64 cv, .bool cg] 106)
     have HOA := hid (HOR.out.below (below_alloc wr (.cells #[.int .i64 ct, .int .i64 cky, .int .i64 cv, .bool cg] 106)))
     have hzc : wr.heap.size < (wr.alloc (.cells #[.int .i64 ct, .int .i64 cky, .int .i64 cv, .bool cg] 106)).heap.size := by simp
     by_cases hct : ct = tb
     .have hcb : (ct != tb) = false := by simpa using hct
      have HPK : Hid (foldK tb (us.take (k + 1)) = insK out cky) := hid (by rw [HFS.out]; unfold putK; rw [if_pos hct, <- HOE.out])
      clear HFS hct
      go_wp2
      obtain ⟨gc, hgce⟩ : ∃ x, x = wr.heap.size := ⟨_, rfl⟩
      rw [<- hgce] at KC hzc
      rw [<- hgce]
      obtain ⟨Y, hY⟩ : ∃ x, x = wr.alloc (.cells #[.int .i64 ct, .int .i64 cky, .int .i64 cv, .bool cg] 106) := ⟨_, rfl⟩
      rw [<- hY] at KC HOA bwA hzc
      rw [<- hY]
      clear hY hgce c0 c1 c2 c3 hbx hxs
      go_loopw [13] (fun jv wx => ∃ (j : Nat), j <= out.length /\ jv = .int .i64 j /\ Hid (∀ i (h : i < out.length), i < j -> out[i] < cky) /\ Below Y.heap.size Y wx) (fun jv _ => out.length - (intOf jv).toNat)
      case atStart => exact ⟨0, Nat.zero_le _, rfl, (fun i _ h => by omega : ∀ i (h : i < out.length), i < 0 -> out[i] < cky), Below.refl _ _⟩
      case round =>
       obtain ⟨j, hj, rfl, HLT, hby⟩ := hrel
       have hys := hby.size
       have k1 : wr.cell? ⟨gc, 1, none⟩ = some (.int .i64 cky) := ((KC.out.below hby hzc) 1 (by simp)).1
       have HOB := hid (HOA.out.below hby)
       have bwB : Below W.heap.size W wr := bwA.trans (hby.mono bwA.size)
       by_cases hjl : j < out.length
       .have hjli : (j : Int) < out.length := by omega
        have c0 : wr.cell? ⟨qg, j, none⟩ = some (.int .i64 out[j]) := own_cell HOB.out (by rw [List.getElem?_map, List.getElem?_eq_getElem hjl]; rfl)
        have hqg : qg < wr.heap.size := (HOB.out.lt rfl).2
        by_cases hlk : out[j] < cky
        .have HL2 : Hid (∀ i (h : i < out.length), i < j + 1 -> out[i] < cky) := hid (fun i h hi => by
          by_cases e : i = j
          .subst e; exact hlk
          .exact HLT.out i h (by omega))
         generalize out[j] = y at c0 hlk
         clear HLT
         have g1 : decide ((j : Int) < out.length) = true := decide_eq_true (by omega)
         have g1n : decide (j < out.length) = true := decide_eq_true (by omega)
         have g2 : decide (y < cky) = true := decide_eq_true (by omega)
         go_wp2
         go_quiet (fail)
         go_wp2
         go_roundw
         case rel => exact ⟨j + 1, by omega, by go_num, HL2, hby.trans ((below_drewNt _ _).mono hys)⟩
         case measure => simp [intOf]; omega
        .by_cases hek : out[j] = cky
         .have HV : Hid (out = foldK tb (us.take (k + 1))) := hid (by rw [HPK.out, insK_there hjl HLT.out hek])
          generalize out[j] = y at c0 hlk hek
          clear HLT
          have g1 : decide ((j : Int) < out.length) = true := decide_eq_true (by omega)
          have g1n : decide (j < out.length) = true := decide_eq_true (by omega)
          have g2 : decide (y < cky) = false := decide_eq_false (by omega)
          have g3 : ((j : Int) == (out.length : Int)) = false := by simp; omega
          have g4 : (y != cky) = false := by simpa using hek
          clear hek
          go_wp2
          go_quiet (fail)
          go_wp2
          go_quiet (fail)
          go_wp2
          go_roundw
          case rel => exact ⟨k + 1, out, _, qc, by omega, by go_num, rfl, HV, hid (HOB.out.below (below_drewNt _ _)), bwB.trans ((below_drewNt _ _).mono bwB.size)⟩
          case measure => simp [intOf]; omega
         .have HV : Hid (foldK tb (us.take (k + 1)) = out.take j ++ [cky] ++ out.drop j) := hid (by rw [HPK.out, insK_new hj HLT.out (fun _ => by omega)])
          generalize out[j] = y at c0 hlk hek
          clear HLT
          have g1 : decide ((j : Int) < out.length) = true := decide_eq_true (by omega)
          have g1n : decide (j < out.length) = true := decide_eq_true (by omega)
          have g2 : decide (y < cky) = false := decide_eq_false (by omega)
          have g3 : ((j : Int) == (out.length : Int)) = false := by simp; omega
          have g4 : (y != cky) = true := by simpa using hek
          clear hek
          go_wp2
          go_quiet (fail)
          go_wp2
          go_quiet (fail)
          go_wp2
          rename_i _ nq2
          obtain ⟨Z, hZ⟩ : ∃ z, z = (wr.drewN nq2).drewN nq := ⟨_, rfl⟩
          have bZ : Below wr.heap.size wr Z := by rw [hZ]; exact (below_drewNt _ _).trans ((below_drewNt _ _).mono (below_drewNt _ _).size)
          rw [<- hZ]
          clear hZ
          have HOZ := hid (HOB.out.below bZ)
          have hcapI := HOZ.out.capI
          have hjq : j <= qc := by omega
          have hjqi : (j : Int) <= qc := by omega
          have hzw : gc < wr.heap.size := Nat.lt_of_lt_of_le hzc hys
          have KCZ := hid ((KC.out.below hby hzc).below bZ hzw)
          have hzcZ : gc < Z.heap.size := Nat.lt_of_lt_of_le hzw bZ.size
          have z1 : Z.cell? ⟨gc, 1, none⟩ = some (.int .i64 cky) := (KCZ.out 1 (by simp)).1
          have bwZ : Below W.heap.size W Z := bwB.trans (bZ.mono bwB.size)
          have HP1 : Hid (∀ X, Below Z.heap.size Z X -> RS 1 CI 0 X (.slice (some ⟨qg, 0, none⟩) (out.take j).length qc) (out.take j)) := hid (fun X hX => ((part_rs HOZ.out.rs j hj).below liesI hX).mono liesI (Nat.zero_le _))
          have OA : Hid (((Z.alloc (.cells #[] 3)).drew).ownsRow Z.heap.size 3 1 (.slice (some ⟨Z.heap.size, 0, none⟩) 0 0) 0 []) := (World.ownsRow_made (base := Z.heap.size) (e := 3) (size := 1) Z #[] 0 (Nat.le_refl _) (by unfold maxLen; omega) (by simp)).drew
          have OB : Hid ((((Z.alloc (.cells #[] 3)).alloc (.cells #[.int .i64 cky] 3)).drew).ownsRow Z.heap.size 3 1 (.slice (some ⟨Z.heap.size, 0, none⟩) 0 0) 0 []) := ((World.ownsRow_made (base := Z.heap.size) (e := 3) (size := 1) Z #[] 0 (Nat.le_refl _) (by unfold maxLen; omega) (by simp)).alloc (.cells #[.int .i64 cky] 3)).drew
          have OC : Hid ((((Z.alloc (.cells #[.int .i64 cky] 3)).alloc (.cells #[] 3)).drew).ownsRow Z.heap.size 3 1 (.slice (some ⟨Z.heap.size + 1, 0, none⟩) 0 0) 0 []) := hid (by
           have := World.ownsRow_made (base := Z.heap.size) (e := 3) (size := 1) (Z.alloc (.cells #[.int .i64 cky] 3)) #[] 0 (by simp) (by unfold maxLen; omega) (by simp)
           simpa using this.drew)
          have HP2 : Hid (∀ d X, Below Z.heap.size Z X -> RS 1 CI 0 X (.slice (if qc = j then some ⟨qg, 0, none⟩ else some ⟨qg, j, none⟩) (out.drop j).length d) (out.drop j)) := hid (fun d X hX => by
           split
           .exact ⟨_, d, rfl, fun h => absurd h (by rw [List.length_drop]; omega)⟩
           .have := ((rest_rs (d := d) HOZ.out.rs j hj).below liesI hX).mono liesI (Nat.zero_le _)
            rw [Nat.zero_add] at this
            exact this)
          go_region_law (first
           | go_loud (
              refine step_append_rs liesI oneI rfl (.tmp 71) (.tmp 74) 32 rfl Z.heap.size 3 i0 (.int .i64 0) 8 Tryz.underlying32 hi hz0 hz1 hz2 rfl (by decide) (.slice (some ⟨_, 0, none⟩) 0 0) 0 [] rfl ?_ _ _ (out.take j) _ ?_ rfl ?_ ?_ ?_ ?_ ?_
              .first | (with_reducible first | exact OA.out | exact OB.out | exact OC.out)
              .first | (simp; done) | (simp; omega)
              .exact HP1.out _ bl
              .unfold maxLen; first | (simp; done) | (simp; omega)
              .first | (simp; done) | (simp; omega)
              .first | (simp; done) | (simp; omega) | omega
              intro news1 v1 w1 hf1 hown1 hgrow1 _ hnil1
              have bz1 : Below Z.heap.size Z w1 := by
               refine Below.grown ?_ hgrow1 ?_ ?_
               .exact bl
               .first | (simp; done) | (simp; omega) | omega
               .intro q hq; simp [Value.ownBlock] at hq; omega
              have HN1 := hid hnil1
              have HF1 := hid hf1
              have HG1 : Hid (Z.heap.size + 1 < w1.heap.size \/ w1.heap.size = w1.heap.size) := .inr rfl
              have z1 : w1.cell? ⟨gc, 1, none⟩ = some (.int .i64 cky) := ((KCZ.out.below bz1 hzcZ) 1 (by simp)).1
              first
               | have KT := hid (KTB1 hgrow1 (by simp [Value.ownBlock]))
               | have KT := hid (KTC1 hgrow1 (by simp [Value.ownBlock]))
               | skip
              clear hf1 hnil1 hgrow1)
           | go_loud (
              refine step_append_rs liesI oneI rfl (.tmp 75) (.tmp 78) 32 rfl Z.heap.size 3 i0 (.int .i64 0) 8 Tryz.underlying32 hi hz0 hz1 hz2 rfl (by decide) v1 (0 + (out.take j).length) ([] ++ news1) rfl ?_ (some ⟨_, 0, none⟩) 1 [cky] 1 (show [cky].length = 1 from rfl) rfl ?_ ?_ ?_ ?_ ?_
              .first | with_reducible exact hown1 | with_reducible exact hown1.alloc _
              .first | with_reducible exact KT.out | exact one_rs _ _ _ (by simp)
              .unfold maxLen; first | (simp; done) | (simp; omega)
              .first | (simp; done) | (simp; omega)
              .have := bz1.size; first | (simp; done) | (simp; omega) | omega
              intro news2 v2 w2 hf2 hown2 hgrow2 _ hnil2
              have bz2 : Below Z.heap.size Z w2 := by
               refine Below.grown ?_ hgrow2 ?_ ?_
               .first | with_reducible exact bz1 | with_reducible exact bz1.alloc bz1.size _
               .have := bz1.size; first | (simp; done) | (simp; omega) | omega
               .intro q hq; exact (hown1.lt q hq).1
              have HN2 := hid hnil2
              have HF2 := hid hf2
              clear hf2 hnil2 hgrow2 hown1)
           | go_loud (
              refine step_append_rs liesI oneI rfl (.tmp 79) (.tmp 82) 32 rfl Z.heap.size 3 i0 (.int .i64 0) 8 Tryz.underlying32 hi hz0 hz1 hz2 rfl (by decide) v2 (0 + (out.take j).length + [cky].length) ([] ++ news1 ++ news2) rfl hown2 _ _ (out.drop j) _ ?_ rfl ?_ ?_ ?_ ?_ ?_
              .first | (simp; done) | (simp; omega)
              .exact HP2.out _ _ bz2
              .unfold maxLen; first | (simp; done) | (simp; omega)
              .first | (simp; done) | (simp; omega)
              .have := bz2.size; omega
              intro news3 v3 w3 hf3 hown3 hgrow3 _ hnil3
              have bz3 : Below Z.heap.size Z w3 := by
               refine Below.grown bz2 hgrow3 bz2.size ?_
               intro q hq; exact (hown2.lt q hq).1
              have HN3 := hid hnil3
              have HF3 := hid hf3
              have HO3 := hid hown3
              clear hf3 hnil3 hgrow3 hown2 hown3))
          all_goals
           obtain ⟨g3, c3, hv3, ho3⟩ := row3 (W := W) HO3.out HF1.out HF2.out HF3.out bwZ.size (fun e => absurd (HN1.out.1 ((HN2.out.1 ((HN3.out.1 e).1)).1)).1 (by simp))
           subst hv3
           have HNEW := hid ho3
           have bw3 : Below W.heap.size W w3 := bwZ.trans (bz3.mono bwZ.size)
           clear HO3 HF1 HF2 HF3 HN1 HN2 HN3 OA OB OC HP1 HP2 KCZ ho3
           go_wp2
           go_roundw
           case rel => exact ⟨k + 1, out.take j ++ [cky] ++ out.drop j, g3, c3, by omega, by go_num, by first | rfl | (simp; done) | (simp; omega), HV.out.symm, HNEW, bw3⟩
           case measure => simp [intOf]; omega
       .have hje : j = out.length := by omega
        subst hje
        have HV : Hid (foldK tb (us.take (k + 1)) = out.take out.length ++ [cky] ++ out.drop out.length) := hid (by rw [HPK.out, insK_new (Nat.le_refl _) HLT.out (fun h => by omega)])
        clear HLT
        have g1 : decide ((out.length : Int) < out.length) = false := decide_eq_false (by omega)
        have g1n : decide (out.length < out.length) = false := decide_eq_false (by omega)
        have g3 : ((out.length : Int) == (out.length : Int)) = true := by simp
        go_wp2
        go_quiet (fail)
        go_wp2
        go_quiet (fail)
        go_wp2
        rename_i _ nq2
        obtain ⟨Z, hZ⟩ : ∃ z, z = (wr.drewN nq2).drewN nq := ⟨_, rfl⟩
        have bZ : Below wr.heap.size wr Z := by rw [hZ]; exact (below_drewNt _ _).trans ((below_drewNt _ _).mono (below_drewNt _ _).size)
        rw [<- hZ]
        clear hZ
        have HOZ := hid (HOB.out.below bZ)
        have hcapI := HOZ.out.capI
        have hjq : out.length <= qc := by omega
        have hjqi : (out.length : Int) <= qc := by omega
        have hzw : gc < wr.heap.size := Nat.lt_of_lt_of_le hzc hys
        have KCZ := hid ((KC.out.below hby hzc).below bZ hzw)
        have hzcZ : gc < Z.heap.size := Nat.lt_of_lt_of_le hzw bZ.size
        have z1 : Z.cell? ⟨gc, 1, none⟩ = some (.int .i64 cky) := (KCZ.out 1 (by simp)).1
        have bwZ : Below W.heap.size W Z := bwB.trans (bZ.mono bwB.size)
        have HP1 : Hid (∀ X, Below Z.heap.size Z X -> RS 1 CI 0 X (.slice (some ⟨qg, 0, none⟩) (out.take out.length).length qc) (out.take out.length)) := hid (fun X hX => ((part_rs HOZ.out.rs out.length hj).below liesI hX).mono liesI (Nat.zero_le _))
        have OA : Hid (((Z.alloc (.cells #[] 3)).drew).ownsRow Z.heap.size 3 1 (.slice (some ⟨Z.heap.size, 0, none⟩) 0 0) 0 []) := (World.ownsRow_made (base := Z.heap.size) (e := 3) (size := 1) Z #[] 0 (Nat.le_refl _) (by unfold maxLen; omega) (by simp)).drew
        have OB : Hid ((((Z.alloc (.cells #[] 3)).alloc (.cells #[.int .i64 cky] 3)).drew).ownsRow Z.heap.size 3 1 (.slice (some ⟨Z.heap.size, 0, none⟩) 0 0) 0 []) := ((World.ownsRow_made (base := Z.heap.size) (e := 3) (size := 1) Z #[] 0 (Nat.le_refl _) (by unfold maxLen; omega) (by simp)).alloc (.cells #[.int .i64 cky] 3)).drew
        have OC : Hid ((((Z.alloc (.cells #[.int .i64 cky] 3)).alloc (.cells #[] 3)).drew).ownsRow Z.heap.size 3 1 (.slice (some ⟨Z.heap.size + 1, 0, none⟩) 0 0) 0 []) := hid (by
         have := World.ownsRow_made (base := Z.heap.size) (e := 3) (size := 1) (Z.alloc (.cells #[.int .i64 cky] 3)) #[] 0 (by simp) (by unfold maxLen; omega) (by simp)
         simpa using this.drew)
        have HP2 : Hid (∀ d X, Below Z.heap.size Z X -> RS 1 CI 0 X (.slice (if qc = out.length then some ⟨qg, 0, none⟩ else some ⟨qg, out.length, none⟩) (out.drop out.length).length d) (out.drop out.length)) := hid (fun d X hX => by
         split
         .exact ⟨_, d, rfl, fun h => absurd h (by rw [List.length_drop]; omega)⟩
         .have := ((rest_rs (d := d) HOZ.out.rs out.length hj).below liesI hX).mono liesI (Nat.zero_le _)
          rw [Nat.zero_add] at this
          exact this)
        go_region_law (first
         | go_loud (
            refine step_append_rs liesI oneI rfl (.tmp 71) (.tmp 74) 32 rfl Z.heap.size 3 i0 (.int .i64 0) 8 Tryz.underlying32 hi hz0 hz1 hz2 rfl (by decide) (.slice (some ⟨_, 0, none⟩) 0 0) 0 [] rfl ?_ _ _ (out.take out.length) _ ?_ rfl ?_ ?_ ?_ ?_ ?_
            .first | (with_reducible first | exact OA.out | exact OB.out | exact OC.out)
            .first | (simp; done) | (simp; omega)
            .exact HP1.out _ bl
            .unfold maxLen; first | (simp; done) | (simp; omega)
            .first | (simp; done) | (simp; omega)
            .first | (simp; done) | (simp; omega) | omega
            intro news1 v1 w1 hf1 hown1 hgrow1 _ hnil1
            have bz1 : Below Z.heap.size Z w1 := by
             refine Below.grown ?_ hgrow1 ?_ ?_
             .exact bl
             .first | (simp; done) | (simp; omega) | omega
             .intro q hq; simp [Value.ownBlock] at hq; omega
            have HN1 := hid hnil1
            have HF1 := hid hf1
            have HG1 : Hid (Z.heap.size + 1 < w1.heap.size \/ w1.heap.size = w1.heap.size) := .inr rfl
            have z1 : w1.cell? ⟨gc, 1, none⟩ = some (.int .i64 cky) := ((KCZ.out.below bz1 hzcZ) 1 (by simp)).1
            first
             | have KT := hid (KTB1 hgrow1 (by simp [Value.ownBlock]))
             | have KT := hid (KTC1 hgrow1 (by simp [Value.ownBlock]))
             | skip
            clear hf1 hnil1 hgrow1)
         | go_loud (
            refine step_append_rs liesI oneI rfl (.tmp 75) (.tmp 78) 32 rfl Z.heap.size 3 i0 (.int .i64 0) 8 Tryz.underlying32 hi hz0 hz1 hz2 rfl (by decide) v1 (0 + (out.take out.length).length) ([] ++ news1) rfl ?_ (some ⟨_, 0, none⟩) 1 [cky] 1 (show [cky].length = 1 from rfl) rfl ?_ ?_ ?_ ?_ ?_
            .first | with_reducible exact hown1 | with_reducible exact hown1.alloc _
            .first | with_reducible exact KT.out | exact one_rs _ _ _ (by simp)
            .unfold maxLen; first | (simp; done) | (simp; omega)
            .first | (simp; done) | (simp; omega)
            .have := bz1.size; first | (simp; done) | (simp; omega) | omega
            intro news2 v2 w2 hf2 hown2 hgrow2 _ hnil2
            have bz2 : Below Z.heap.size Z w2 := by
             refine Below.grown ?_ hgrow2 ?_ ?_
             .first | with_reducible exact bz1 | with_reducible exact bz1.alloc bz1.size _
             .have := bz1.size; first | (simp; done) | (simp; omega) | omega
             .intro q hq; exact (hown1.lt q hq).1
            have HN2 := hid hnil2
            have HF2 := hid hf2
            clear hf2 hnil2 hgrow2 hown1)
         | go_loud (
            refine step_append_rs liesI oneI rfl (.tmp 79) (.tmp 82) 32 rfl Z.heap.size 3 i0 (.int .i64 0) 8 Tryz.underlying32 hi hz0 hz1 hz2 rfl (by decide) v2 (0 + (out.take out.length).length + [cky].length) ([] ++ news1 ++ news2) rfl hown2 _ _ (out.drop out.length) _ ?_ rfl ?_ ?_ ?_ ?_ ?_
            .first | (simp; done) | (simp; omega)
            .exact HP2.out _ _ bz2
            .unfold maxLen; first | (simp; done) | (simp; omega)
            .first | (simp; done) | (simp; omega)
            .have := bz2.size; omega
            intro news3 v3 w3 hf3 hown3 hgrow3 _ hnil3
            have bz3 : Below Z.heap.size Z w3 := by
             refine Below.grown bz2 hgrow3 bz2.size ?_
             intro q hq; exact (hown2.lt q hq).1
            have HN3 := hid hnil3
            have HF3 := hid hf3
            have HO3 := hid hown3
            clear hf3 hnil3 hgrow3 hown2 hown3))
        all_goals
         obtain ⟨g3, c3, hv3, ho3⟩ := row3 (W := W) HO3.out HF1.out HF2.out HF3.out bwZ.size (fun e => absurd (HN1.out.1 ((HN2.out.1 ((HN3.out.1 e).1)).1)).1 (by simp))
         subst hv3
         have HNEW := hid ho3
         have bw3 : Below W.heap.size W w3 := bwZ.trans (bz3.mono bwZ.size)
         clear HO3 HF1 HF2 HF3 HN1 HN2 HN3 OA OB OC HP1 HP2 KCZ ho3
         go_wp2
         go_roundw
         case rel => exact ⟨k + 1, out.take out.length ++ [cky] ++ out.drop out.length, g3, c3, by omega, by go_num, by first | rfl | (simp; done) | (simp; omega), HV.out.symm, HNEW, bw3⟩
         case measure => simp [intOf]; omega
     .have hcb : (ct != tb) = true := by simpa using hct
      have HV : Hid (out = foldK tb (us.take (k + 1))) := hid (by rw [HFS.out]; unfold putK; rw [if_neg hct]; exact HOE.out)
      clear HFS hct
      go_wp2
      go_roundw
      case rel => exact ⟨k + 1, out, qg, qc, by omega, by go_num, rfl, HV, HOA, bwA⟩
      case measure => simp [intOf]; omega
    .have hkn : k = us.length := by omega
     subst hkn
     have hlti : ¬ (us.length : Int) < us.length := by omega
     have HE : Hid (out = keysF cms own tb) := hid (by rw [HKF.out, HOE.out, List.take_length])
     have HR := hid ((HOR.out.rs).mono liesI hbs)
     clear HOE HOR
     go_wp2
     go_ret
     exact ⟨_, qc, by rw [<- HE.out]; rfl, by rw [<- HE.out]; exact HR.out, hbel.trans (hbx.mono hbs)⟩
def pairV (p : Int × Int) : List Value := [.int .i64 p.1, .int .i64 p.2]
def CPr (B : Nat) (w : World) (cs : List Value) (p : Int × Int) : Prop := cs = pairV p
theorem liesPr : Lies 2 CPr := ⟨fun h => by rw [h]; rfl, fun h _ => h, fun h _ => h, fun h _ => h⟩
theorem onePr : ∀ {B : Nat} {w : World} {cs : List Value} {x : Int × Int}, CPr B w cs x -> ∀ u ∈ cs, u.oneCell' = true := fun h u hu => by
 rw [h] at hu
 unfold pairV at hu
 simp at hu
 rcases hu with rfl | rfl <;> rfl
def Gr {α : Type} (f : α -> List Value) (ty k b : Nat) (w : World) (v : Value) (xs : List α) : Prop := w.ownsRow b ty k v xs.length (xs.flatMap f)
theorem Gr.below {α : Type} {f : α -> List Value} {ty k b : Nat} {w w' : World} {v : Value} {xs : List α} (h : Gr f ty k b w v xs) (hb : Below w.heap.size w w') : Gr f ty k b w' v xs := own_below h hb
theorem Gr.push {α : Type} {f : α -> List Value} {ty k b : Nat} {w' : World} {v' : Value} {xs : List α} {x : α} (h : w'.ownsRow b ty k v' (xs.length + 1) (xs.flatMap f ++ f x)) : Gr f ty k b w' v' (xs ++ [x]) := by
 unfold Gr; rw [List.flatMap_append, List.length_append]; simpa using h
theorem fill_flat {α : Type} {f : α -> List Value} {k : Nat} {C : Nat -> World -> List Value -> α -> Prop} (hC : Lies k C) (B : Nat) (w : World) : ∀ us : List α, (∀ x ∈ us, C B w (f x) x) -> Fill k C B us us.length (us.flatMap f) w
 | [], _ => fill_nil _ _ _ _
 | t :: r, h => by
   have h1 := fill_one hC (h t List.mem_cons_self)
   exact h1.append (fill_flat hC B w r (fun x hx => h x (List.mem_cons_of_mem _ hx)))
theorem Gr.rs {α : Type} {f : α -> List Value} {ty k b : Nat} {w : World} {v : Value} {xs : List α} {C : Nat -> World -> List Value -> α -> Prop} (hC : Lies k C) (h : Gr f ty k b w v xs) (hx : ∀ x ∈ xs, C b w (f x) x) : RS k C b w v xs := (fill_flat hC b w xs hx).own hC h (Nat.le_refl _)
def pairAt (cms : List Com) (bg : Int) (own : List Cel) (tb k : Int) : Option (Int × Int) := if (seesF cms bg own tb k).2 then some (k, (seesF cms bg own tb k).1) else none
def pairsF (cms : List Com) (bg : Int) (own : List Cel) (tb : Int) (ks : List Int) : List (Int × Int) := ks.filterMap (pairAt cms bg own tb)
def listF (cms : List Com) (bg : Int) (own : List Cel) (tb : Int) : List (Int × Int) := pairsF cms bg own tb (keysF cms own tb)
theorem pairsF_yes {cms : List Com} {bg tb x : Int} {own : List Cel} {ks : List Int} {j : Nat} (hj : j < ks.length) (h : seesF cms bg own tb ks[j] = (x, true)) : pairsF cms bg own tb (ks.take (j + 1)) = pairsF cms bg own tb (ks.take j) ++ [(ks[j], x)] := by
 unfold pairsF
 rw [show ks.take (j + 1) = ks.take j ++ [ks[j]] by rw [List.take_add_one, List.getElem?_eq_getElem hj]; rfl, List.filterMap_append]
 simp [pairAt, h]
theorem pairsF_no {cms : List Com} {bg tb x : Int} {own : List Cel} {ks : List Int} {j : Nat} (hj : j < ks.length) (h : seesF cms bg own tb ks[j] = (x, false)) : pairsF cms bg own tb (ks.take (j + 1)) = pairsF cms bg own tb (ks.take j) := by
 unfold pairsF
 rw [show ks.take (j + 1) = ks.take j ++ [ks[j]] by rw [List.take_add_one, List.getElem?_eq_getElem hj]; rfl, List.filterMap_append]
 simp [pairAt, h]
theorem pairsF_len (cms : List Com) (bg tb : Int) (own : List Cel) (ks : List Int) : (pairsF cms bg own tb ks).length <= ks.length := List.length_filterMap_le _ _
theorem keysF_len (cms : List Com) (own : List Cel) (tb : Int) : (keysF cms own tb).length <= (allC cms own).length := foldK_len _ _
theorem int_at {b : Nat} {w : World} {a : Option Addr} {n c : Nat} {xs : List Int} (h : RS 1 CI b w (.slice a n c) xs) (hp : 0 < xs.length) : ∃ g o, a = some ⟨g, o, none⟩ /\ b <= g /\ g < w.heap.size /\ ∀ j (hj : j < xs.length), w.cell? ⟨g, o + j, none⟩ = some (.int .i64 xs[j]) := by
 obtain ⟨a', c', he, hh⟩ := h
 obtain ⟨g, o, e2, h1, h2, h3⟩ := hh hp
 simp only [Value.slice.injEq] at he
 refine ⟨g, o, he.1.trans e2, h1, h2, fun j hj => ?_⟩
 obtain ⟨cs, hc, hcell⟩ := h3 j hj
 cases hc
 have := hcell 0 (by omega)
 rw [Nat.mul_one, Nat.add_zero] at this
 exact this
theorem rsI_kept {b : Nat} {w w' : World} {a : Option Addr} {n c : Nat} {xs : List Int} {row : Option Nat} (h : RS 1 CI b w (.slice a n c) xs) (hg : w.grownBy w' row) (hr : ∀ g o, 0 < xs.length -> a = some ⟨g, o, none⟩ -> row ≠ some g) : RS 1 CI b w' (.slice a n c) xs := by
 obtain ⟨a', c', he, hh⟩ := h
 refine ⟨a', c', he, fun hp => ?_⟩
 obtain ⟨g, o, e2, h1, h2, h3⟩ := hh hp
 simp only [Value.slice.injEq] at he
 have hne := hr g o hp (he.1.trans e2)
 refine ⟨g, o, e2, h1, Nat.lt_of_lt_of_le h2 hg.size, fun i hi => ?_⟩
 obtain ⟨cs, x, y⟩ := h3 i hi
 refine ⟨cs, x, fun q hq => ?_⟩
 rw [<- y q hq]
 exact World.cell?_of_block (hg.block g h2 (fun e => hne e.symm))
theorem infoPr : (Tryz.prog.info? 92).map (fun i => (i.zero, i.size, i.bytes)) = some (some (.agg #[.int .i64 0, .int .i64 0]), 2, 16) := by kernel_rfl
theorem list_spec (bb : Nat) (ck : Int) (ma : Option Addr) (mc : Nat) (hv tv rv sv : Value) (op : Bool) (md bg : Int) (oa : Option Addr) (oc : Nat) (cms : List Com) (own : List Cel) (tb : Int) (w : World) (hm : BM cms) (ht : (allC cms own).length <= 1048576) (hbb : bb < w.heap.size)
 (hB : Blk w bb [.int .i64 ck, .slice ma cms.length mc, hv, tv]) (hms : RS 2 CCm 0 w (.slice ma cms.length mc) cms) (hown : RS 4 CC 0 w (.slice oa own.length oc) own) :
 Calls Tryz.prog 39 #[.pointer (some ⟨bb, 0, none⟩), .agg #[.bool op, .int .i64 md, .int .i64 bg, .slice oa own.length oc, rv, sv], .int .i64 tb] w fun e w' => ∃ (a : Option Addr) (c : Nat), e = .returned (.slice a (listF cms bg own tb).length c) /\ Gr pairV 92 2 w.heap.size w' (.slice a (listF cms bg own tb).length c) (listF cms bg own tb) /\ Below w.heap.size w w' := by
 obtain ⟨i0, hi, hz0, hz1, hz2⟩ := info_parts infoPr
 have bw : Below w.heap.size w ((w.alloc (.cells #[.bool op, .int .i64 md, .int .i64 bg, .slice oa own.length oc, rv, sv] 70)).alloc (.cells #[] 92)) := (below_alloc w _).alloc (by simp) _
 have K4 := hid (blkA2 w [.bool op, .int .i64 md, .int .i64 bg, .slice oa own.length oc, rv, sv] [] 70 92)
 have HG : Hid (Gr pairV 92 2 w.heap.size ((w.alloc (.cells #[.bool op, .int .i64 md, .int .i64 bg, .slice oa own.length oc, rv, sv] 70)).alloc (.cells #[] 92)) (.slice (some ⟨w.heap.size + 1, 0, none⟩) 0 0) []) := hid (by
  have := World.ownsRow_made (base := w.heap.size) (e := 92) (size := 2) (w.alloc (.cells #[.bool op, .int .i64 md, .int .i64 bg, .slice oa own.length oc, rv, sv] 70)) #[] 0 (by simp) (by unfold maxLen; omega) (by simp)
  unfold Gr
  simpa using this)
 have hol : own.length <= 1048576 := by unfold allC at ht; rw [List.length_append] at ht; omega
 have HSE := hid (fun k W (h : Below w.heap.size w W) => sees_spec bb ck ma mc hv tv rv sv op md bg oa oc cms own tb k W hm hol (Nat.lt_of_lt_of_le hbb h.size) (hB.below h hbb) (hms.below liesM h) (hown.below liesC h))
 have hkk := keys_spec bb ck ma mc hv tv rv sv op md bg oa oc cms own tb _ hm ht (Nat.lt_of_lt_of_le hbb bw.size) (hB.below bw hbb) (hms.below liesM bw) (hown.below liesC bw)
 have hkl := Nat.le_trans (keysF_len cms own tb) ht
 clear hown hB hms hm ht
 have hz4 : w.heap.size < ((w.alloc (.cells #[.bool op, .int .i64 md, .int .i64 bg, .slice oa own.length oc, rv, sv] 70)).alloc (.cells #[] 92)).heap.size := by simp; omega
 go_enter Tryz.func39, Tryz.ntmps39
 go_wp2_with (go_at_call 58; fail)
 refine hkk.mono ?_
 rintro e w1 ⟨ka, kc, rfl, hrk, hb1⟩
 have bw1 : Below w.heap.size w w1 := bw.trans (hb1.mono bw.size)
 replace K4 := hid (K4.out.below hb1 hz4)
 have hz1w : w.heap.size < w1.heap.size := Nat.lt_of_lt_of_le hz4 hb1.size
 have HG1 := hid (HG.out.below hb1)
 have HRK := hid (hrk.mono liesI (Nat.zero_le _))
 have HKB : Hid (∀ g o, 0 < (keysF cms own tb).length -> ka = some ⟨g, o, none⟩ -> w.heap.size + 1 < g /\ g < w1.heap.size) := hid (fun g o hp hk => by
  obtain ⟨g', o', e2, h1, h2, _⟩ := int_at hrk hp
  rw [hk] at e2
  cases e2
  simp at h1
  exact ⟨by omega, h2⟩)
 have HLF : Hid (listF cms bg own tb = pairsF cms bg own tb (keysF cms own tb)) := rfl
 clear hkk hrk hb1 hz4 bw HG
 generalize keysF cms own tb = ks at *
 go_wp2
 go_loopw [7, 18] (fun pv iv wr => ∃ (k : Nat) (ps : List (Int × Int)) (pa : Option Addr) (pc : Nat), k <= ks.length /\ iv = .int .i64 k /\ pv = .slice pa ps.length pc /\ Hid (ps = pairsF cms bg own tb (ks.take k)) /\ Hid (Gr pairV 92 2 w.heap.size wr (.slice pa ps.length pc) ps) /\ Hid (Blk wr w.heap.size [.bool op, .int .i64 md, .int .i64 bg, .slice oa own.length oc, rv, sv]) /\ w.heap.size < wr.heap.size /\ Below w.heap.size w wr /\ Hid (RS 1 CI 0 wr (.slice ka ks.length kc) ks) /\ Hid (∀ g, (Value.slice pa ps.length pc).ownBlock = some g -> g <= w.heap.size + 1 \/ w1.heap.size <= g) /\ w1.heap.size <= wr.heap.size /\ Hid (∀ g, (Value.slice pa ps.length pc).ownBlock = some g -> w.heap.size < g)) (fun _ iv _ => ks.length - (intOf iv).toNat)
 case atStart => exact ⟨0, [], _, 0, Nat.zero_le _, rfl, rfl, (by simp [pairsF] : ([] : List (Int × Int)) = pairsF cms bg own tb (ks.take 0)), HG1, K4, hz1w, bw1, HRK, (fun g h => by simp [Value.ownBlock] at h; omega : ∀ g, (Value.slice (some ⟨w.heap.size + 1, 0, none⟩) 0 0).ownBlock = some g -> g <= w.heap.size + 1 \/ w1.heap.size <= g), Nat.le_refl _, (fun g h => by simp [Value.ownBlock] at h; omega : ∀ g, (Value.slice (some ⟨w.heap.size + 1, 0, none⟩) 0 0).ownBlock = some g -> w.heap.size < g)⟩
 case round =>
  clear HG1 K4 hz1w bw1 HRK
  obtain ⟨k, ps, pa, pc, hk, rfl, rfl, HPS, HG, K4, hz, hbel, HRK, HPB, hw1s, HGL⟩ := hrel
  have hbs := hbel.size
  have hpl : ps.length <= 1048576 := by rw [HPS.out]; exact Nat.le_trans (pairsF_len _ _ _ _ _) (by rw [List.length_take]; omega)
  by_cases hlt : k < ks.length
  .have hlti : (k : Int) < ks.length := by omega
   obtain ⟨kg, ko, rfl, _, hkg, hkc⟩ := int_at HRK.out (by omega)
   have c0 := hkc k hlt
   have HY := hid (fun x h => pairsF_yes (cms := cms) (bg := bg) (own := own) (tb := tb) (x := x) hlt h)
   have HN := hid (fun x h => pairsF_no (cms := cms) (bg := bg) (own := own) (tb := tb) (x := x) hlt h)
   have hse := HSE.out ks[k] wr hbel
   obtain ⟨t0, t1, t2, t3⟩ := kc3 K4.out
   have t4 : wr.cell? ⟨w.heap.size, 4, none⟩ = some rv := (K4.out 4 (by simp)).1
   have t5 : wr.cell? ⟨w.heap.size, 5, none⟩ = some sv := (K4.out 5 (by simp)).1
   clear hkc
   generalize ks[k] = y at c0 HY HN hse
   go_wp2_with (go_at_call 38; fail)
   refine hse.mono ?_
   rintro e w3 ⟨rfl, hb3⟩
   replace HG := hid (HG.out.below hb3)
   replace K4 := hid (K4.out.below hb3 hz)
   replace HRK := hid (HRK.out.below liesI hb3)
   have bw3 : Below w.heap.size w w3 := hbel.trans (hb3.mono hbs)
   have hz3 : w.heap.size < w3.heap.size := Nat.lt_of_lt_of_le hz hb3.size
   have hw3s : w1.heap.size <= w3.heap.size := Nat.le_trans hw1s hb3.size
   clear hse hb3 t0 t1 t2 t3 t4 t5 c0 hbel hbs
   obtain ⟨x, fd, hsf⟩ : ∃ x fd, seesF cms bg own tb y = (x, fd) := ⟨_, _, rfl⟩
   rw [hsf]
   rcases fd with _ | _
   .have HV := hid (HN.out x hsf)
    have HPV : Hid (ps = pairsF cms bg own tb (ks.take (k + 1))) := hid (by rw [HV.out]; exact HPS.out)
    clear HY HN hsf HV
    go_wp2
    go_roundw
    case rel => exact ⟨k + 1, ps, pa, pc, by omega, by go_num, rfl, HPV, HG, K4, hz3, bw3, HRK, HPB, hw3s, HGL⟩
    case measure => simp [intOf]; omega
   .have HV := hid (HY.out x hsf)
    have HPV : Hid (ps ++ [(y, x)] = pairsF cms bg own tb (ks.take (k + 1))) := hid (by rw [HV.out, <- HPS.out])
    have HGA := hid (HG.out.below (below_alloc w3 (.cells #[.int .i64 y, .int .i64 x] 92)))
    have bwA := bw3.alloc bw3.size (.cells #[.int .i64 y, .int .i64 x] 92)
    have K4A := hid (K4.out.below (below_alloc w3 (.cells #[.int .i64 y, .int .i64 x] 92)) hz3)
    have HRA := hid (HRK.out.below liesI (below_alloc w3 (.cells #[.int .i64 y, .int .i64 x] 92)))
    clear HY HN hsf HV
    have HPX : Hid ((Value.slice pa ps.length pc).ownBlock ≠ some w.heap.size) := hid (fun e => by have := (HG.out.lt _ e).1; have h2 := HGL.out _ e; omega)
    go_wp2_with (at_builtin; go_loud (refine wpList_append_own_at _ rfl (.tmp 31) (.tmp 35) 36 rfl w.heap.size 92 i0 _ 2 16 Tryz.underlying36 hi hz0 hz1 hz2 rfl (by decide) (.slice pa ps.length pc) ps.length (ps.flatMap pairV) rfl HGA.out ⟨w3.heap.size, 0, none⟩ 1 1 (pairV (y, x)) rfl rfl (cells_new _ (pairV (y, x)) 92 _ (by simp)) (onePr (B := 0) (w := w) (x := (y, x)) rfl) (by unfold maxLen; omega) (by omega) (by simp; omega) ?_; intro v' w' hown hgrow _ hblk; obtain ⟨na, nc, hvn⟩ := formR hown; subst hvn; have HGN : Hid (Gr pairV 92 2 w.heap.size w' (.slice na (ps.length + 1) nc) (ps ++ [(y, x)])) := Gr.push hown; have bwN : Below w.heap.size w w' := bwA.grown hgrow bwA.size (fun q hq => (HGA.out.lt q hq).1); have K4N := hid (K4A.out.keptG hgrow (by simp; omega) HPX.out); have HRN := hid (rsI_kept HRA.out hgrow (fun g o hp hk e => by have h1 := HKB.out g o hp hk; have h2 := HPB.out g e; omega)); have HBN : Hid (∀ g, (Value.slice na (ps.length + 1) nc).ownBlock = some g -> g <= w.heap.size + 1 \/ w1.heap.size <= g) := (fun g hg => by rcases hblk with e | e; exact HPB.out g (e ▸ hg); rw [e] at hg; simp at hg; omega); have HLN : Hid (∀ g, (Value.slice na (ps.length + 1) nc).ownBlock = some g -> w.heap.size < g) := (fun g hg => by rcases hblk with e | e; exact HGL.out g (e ▸ hg); rw [e] at hg; simp at hg; omega); have hzN : w.heap.size < w'.heap.size := Nat.lt_of_lt_of_le (by simp; omega) hgrow.size; have hwN : w1.heap.size <= w'.heap.size := Nat.le_trans (by simp; omega) hgrow.size; clear hown hgrow hblk))
    go_roundw
    case rel => exact ⟨k + 1, ps ++ [(y, x)], na, nc, by omega, by go_num, by simp, HPV, hid (by simpa using HGN.out), K4N, hzN, bwN, HRN, hid (by simpa using HBN.out), hwN, hid (by simpa using HLN.out)⟩
    case measure => simp [intOf]; omega
  .have hkn : k = ks.length := by omega
   subst hkn
   have hlti : ¬ (ks.length : Int) < ks.length := by omega
   rw [List.take_length] at HPS
   have HE : Hid (ps = listF cms bg own tb) := hid (by rw [HLF.out]; exact HPS.out)
   go_wp2
   go_ret
   exact ⟨pa, pc, by rw [<- HE.out]; rfl, by rw [<- HE.out]; exact HG.out, hbel⟩
structure Sav where
 nm : ByteArray
 cs : List Cel
def CSv (B : Nat) (w : World) (vs : List Value) (s : Sav) : Prop := ∃ cv, vs = [.string s.nm, cv] /\ RS 4 CC B w cv s.cs
def lastK {α : Type} (p : α -> Bool) : List α -> Option Nat
 | [] => none
 | x :: r => match lastK p r with
   | some i => some (i + 1)
   | none => if p x then some 0 else none
theorem lastK_none {α : Type} {p : α -> Bool} : ∀ {xs : List α}, (∀ x ∈ xs, p x = false) -> lastK p xs = none
 | [], _ => rfl
 | x :: r, h => by
   unfold lastK
   rw [lastK_none (fun y hy => h y (List.mem_cons_of_mem _ hy)), h x List.mem_cons_self]
   rfl
theorem lastK_hit {α : Type} {p : α -> Bool} : ∀ {xs : List α} {k : Nat} (hk : k < xs.length), p xs[k] = true -> (∀ x ∈ xs.drop (k + 1), p x = false) -> lastK p xs = some k
 | x :: r, 0, hk, h1, h2 => by
   unfold lastK
   rw [lastK_none (by simpa using h2)]
   simp at h1
   simp [h1]
 | x :: r, k + 1, hk, h1, h2 => by
   unfold lastK
   rw [lastK_hit (xs := r) (k := k) (by simpa using hk) (by simpa using h1) (by simpa using h2)]
theorem lastK_lt {α : Type} {p : α -> Bool} : ∀ {xs : List α} {k : Nat}, lastK p xs = some k -> k < xs.length
 | [], k, h => by simp [lastK] at h
 | x :: r, k, h => by
   unfold lastK at h
   cases hr : lastK p r with
   | none => rw [hr] at h; simp at h; simp; omega
   | some i => rw [hr] at h; have := lastK_lt hr; simp at h; simp; omega
def savedF (ss : List Sav) (nm : ByteArray) : Option Nat := lastK (fun s => decide (s.nm = nm)) ss
def savedI : Option Nat -> Int
 | some k => k
 | none => -1
theorem ba_ext {x y : ByteArray} (h : x.data.toList = y.data.toList) : x = y := by
 cases x
 cases y
 congr
 exact Array.toList_inj.1 h
theorem sav_at {w : World} {a : Option Addr} {n c : Nat} {us : List Sav} (h : RS 2 CSv 0 w (.slice a n c) us) (hp : 0 < us.length) : ∃ g o, a = some ⟨g, o, none⟩ /\ g < w.heap.size /\ ∀ j (hj : j < us.length), ∃ ea ec, w.cell? ⟨g, o + j * 2, none⟩ = some (.string us[j].nm) /\ w.cell? ⟨g, o + j * 2 + 1, none⟩ = some (.slice ea us[j].cs.length ec) /\ RS 4 CC 0 w (.slice ea us[j].cs.length ec) us[j].cs := by
 obtain ⟨a', c', he, hh⟩ := h
 obtain ⟨g, o, e2, h1, h2, h3⟩ := hh hp
 simp only [Value.slice.injEq] at he
 refine ⟨g, o, he.1.trans e2, h2, fun j hj => ?_⟩
 obtain ⟨cs, hc, hcell⟩ := h3 j hj
 obtain ⟨cv, rfl, hr⟩ := hc
 obtain ⟨ea, ec, he3, hr3⟩ := id hr
 subst he3
 exact ⟨ea, ec, hcell 0 (by omega), hcell 1 (by omega), hr⟩
theorem saved_spec (op : Bool) (md bg : Int) (ov rv : Value) (sa : Option Addr) (sc : Nat) (ss : List Sav) (nm : ByteArray) (w : World) (hn : ss.length <= 1048576) (hs : RS 2 CSv 0 w (.slice sa ss.length sc) ss) :
 Calls Tryz.prog 62 #[.agg #[.bool op, .int .i64 md, .int .i64 bg, ov, rv, .slice sa ss.length sc], .string nm] w fun e w' => e = .returned (.int .i64 (savedI (savedF ss nm))) /\ Below w.heap.size w w' := by
 have HS := hid hs
 have bw := below_alloc w (.cells #[.bool op, .int .i64 md, .int .i64 bg, ov, rv, .slice sa ss.length sc] 70)
 have hw0 : IntKind.i64.wrap ((ss.length : Int) - 1) = (ss.length : Int) - 1 := by simp only [IntKind.wrap_i64, wrap64]; omega
 clear hs
 go_enter Tryz.func62, Tryz.ntmps62
 go_wp2
 obtain ⟨Y, hY⟩ : ∃ x, x = w.alloc (.cells #[.bool op, .int .i64 md, .int .i64 bg, ov, rv, .slice sa ss.length sc] 70) := ⟨_, rfl⟩
 have y5 : Y.cell? ⟨w.heap.size, 5, none⟩ = some (.slice sa ss.length sc) := by rw [hY]; simp
 rw [<- hY] at bw ⊢
 clear hY
 go_loopw [5] (fun iv wr => ∃ k : Nat, k <= ss.length /\ iv = .int .i64 ((k : Int) - 1) /\ Hid (∀ s ∈ ss.drop k, decide (s.nm = nm) = false) /\ wr = Y) (fun iv _ => ((intOf iv) + 1).toNat)
 case atStart => exact ⟨ss.length, Nat.le_refl _, rfl, (fun c h => by simp at h : ∀ s ∈ ss.drop ss.length, decide (s.nm = nm) = false), rfl⟩
 case round =>
  obtain ⟨k, hk, rfl, HO, rfl⟩ := hrel
  by_cases hlt : 0 < k
  .obtain ⟨j, rfl⟩ : ∃ j, k = j + 1 := ⟨k - 1, by omega⟩
   have hjl : j < ss.length := by omega
   have hji : (j : Int) < ss.length := by omega
   have hcast : ((j + 1 : Nat) : Int) - 1 = (j : Int) := by omega
   rw [hcast]
   obtain ⟨g, o, rfl, hg, hgc⟩ := sav_at HS.out (by omega)
   obtain ⟨ea, ec, c0, _, _⟩ := hgc j hjl
   replace c0 := (bw.cell (p := ⟨g, o + j * 2, none⟩) hg).trans c0
   have HST := hid (fun z => drop_step (P := fun s => decide (s.nm = nm) = false) hjl HO.out z)
   have HHT := hid (fun z => lastK_hit (p := fun s => decide (s.nm = nm)) hjl z HO.out)
   have hw1 : IntKind.i64.wrap ((j : Int) - 1) = (j : Int) - 1 := by simp only [IntKind.wrap_i64, wrap64]; omega
   clear hgc HO
   generalize ss[j] = s at c0 HST HHT
   obtain ⟨sn, scs⟩ := s
   simp only at c0 HST HHT
   by_cases h1 : sn = nm
   .have HF : Hid (savedF ss nm = some j) := hid (HHT.out (by simp [h1]))
    subst h1
    clear HST HHT
    go_wp2
    go_ret
    exact ⟨by rw [HF.out]; rfl, bw⟩
   .have HV := hid (HST.out (by simp [h1]))
    have hsb : (sn.toList == nm.toList) = false := by rw [Lib.toList_data, Lib.toList_data, beq_eq_false_iff_ne]; intro z; exact h1 (ba_ext z)
    clear HST HHT h1
    go_wp2
    go_roundw
    case rel => exact ⟨j, by omega, by first | rfl | go_num, HV, by first | rfl | trivial⟩
    case measure => simp [intOf]
  .have hk0 : k = 0 := by omega
   subst hk0
   have HF : Hid (savedF ss nm = none) := hid (lastK_none (by simpa using HO.out))
   clear HO
   go_wp2
   go_ret
   exact ⟨by rw [HF.out]; rfl, bw⟩
structure Opn where
 kd : Int
 ss : Int
 tb : Int
 ky : Int
 vl : Int
 md : Int
 nm : ByteArray
def CO (B : Nat) (w : World) (cs : List Value) (x : Opn) : Prop := cs = [.int .i64 x.kd, .int .i64 x.ss, .int .i64 x.tb, .int .i64 x.ky, .int .i64 x.vl, .int .i64 x.md, .string x.nm]
theorem liesO : Lies 7 CO := ⟨fun h => by rw [h]; rfl, fun h _ => h, fun h _ => h, fun h _ => h⟩
structure Obn where
 code : Int
 vl : Int
 st : Int
 fd : Bool
 ps : List (Int × Int)
def CA (B : Nat) (w : World) (cs : List Value) (x : Obn) : Prop := ∃ pv, cs = [.int .i64 x.code, .int .i64 x.vl, .int .i64 x.st, .bool x.fd, pv] /\ RS 2 CPr B w pv x.ps
theorem liesA : Lies 5 CA :=
 ⟨fun ⟨_, h, _⟩ => by rw [h]; rfl, fun ⟨a, h, r⟩ hd => ⟨a, h, r.mono liesPr hd⟩, fun ⟨a, h, r⟩ hb => ⟨a, h, r.below liesPr hb⟩, fun ⟨a, h, r⟩ hc => ⟨a, h, r.set liesPr hc⟩⟩
end Go.Proofs.YtblkgicbimflhaaGreat
