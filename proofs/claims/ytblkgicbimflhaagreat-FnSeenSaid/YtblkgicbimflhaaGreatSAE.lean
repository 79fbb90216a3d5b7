import Derived.Test.YtblkgicbimflhaaGreatSAD
namespace Go.Proofs.YtblkgicbimflhaaGreat
open Go.ChangeShapes Go.WideShapes Go.ChangeAt Go.RowKit
set_option linter.unusedVariables false
set_option linter.unusedSimpArgs false
set_option maxRecDepth 100000
set_option maxHeartbeats 16000000
theorem own_base0 {w : World} {b e k n : Nat} {v : Value} {xs : List Value} (h : w.ownsRow b e k v n xs) : w.ownsRow 0 e k v n xs := by
 obtain ⟨h1, h2⟩ := h
 refine ⟨h1, ?_⟩
 rcases h2 with h2 | ⟨g, cap, cur, rfl, hg1, hg2⟩
 .exact .inl h2
 .exact .inr ⟨g, cap, cur, rfl, Nat.zero_le _, hg2⟩
theorem fillC {B B' k : Nat} {us : List Cel} {xs : List Value} {w w' : World} (h : Fill 4 CC B us k xs w) : Fill 4 CC B' us k xs w' := ⟨h.1, fun i hi hk => h.2 i hi hk⟩
theorem formR {b e k n : Nat} {w : World} {v : Value} {xs : List Value} (h : w.ownsRow b e k v n xs) : ∃ a c, v = .slice a n c := by
 obtain ⟨_, h2⟩ := h
 rcases h2 with ⟨rfl, h0⟩ | ⟨q, cap, cur, rfl, _⟩
 .exact ⟨none, 0, by rw [h0]⟩
 .exact ⟨_, _, rfl⟩
theorem one_rs (W : World) (k : Int) (b : Nat) (hb : b = W.heap.size) : RS 1 CI 0 (W.alloc (.cells #[.int .i64 k] 3)) (.slice (some ⟨b, 0, none⟩) [k].length 1) [k] := by
 subst hb
 refine ⟨_, _, rfl, fun _ => ⟨W.heap.size, 0, rfl, Nat.zero_le _, by simp, fun i hi => ⟨[.int .i64 k], ?_, fun j hj => ?_⟩⟩⟩
 .have : i = 0 := by simp at hi; omega
  subst this
  rfl
 .have : i = 0 := by simp at hi; omega
  subst this
  have hj0 : j = 0 := by omega
  subst hj0
  simp
theorem IGr.capI {b : Nat} {w : World} {xs : List Int} {oa : Option Addr} {oc : Nat} (h : IGr b w (.slice oa xs.length oc) xs) : xs.length <= oc := by
 obtain ⟨_, h2⟩ := h
 rcases h2 with ⟨e, h0⟩ | ⟨q, cap, cur, e, _, _, h3, _⟩
 .omega
 .simp only [Value.slice.injEq] at e
  omega
theorem blk_rs {W : World} {k : Int} {b : Nat} (h : Blk W b [.int .i64 k]) (hb : b < W.heap.size) : RS 1 CI 0 W (.slice (some ⟨b, 0, none⟩) [k].length 1) [k] := by
 refine ⟨_, _, rfl, fun _ => ⟨b, 0, rfl, Nat.zero_le _, hb, fun i hi => ⟨[.int .i64 k], ?_, fun j hj => ?_⟩⟩⟩
 .have : i = 0 := by simp at hi; omega
  subst this
  rfl
 .have : i = 0 := by simp at hi; omega
  subst this
  have := (h j (by simpa using hj)).1
  simpa using this
theorem KTB1 {Z w1 : World} {k : Int} {row : Option Nat} (h : ((Z.alloc (.cells #[] 3)).alloc (.cells #[.int .i64 k] 3)).drew.grownBy w1 row) (hr : some (Z.heap.size + 1) ≠ row) : RS 1 CI 0 w1 (.slice (some ⟨Z.heap.size + 1, 0, none⟩) [k].length 1) [k] := by
 have h1 := blk_new (Z.alloc (.cells #[] 3)) [.int .i64 k] 3
 rw [show (Z.alloc (.cells #[] 3)).heap.size = Z.heap.size + 1 by simp] at h1
 exact blk_rs ((h1.below (Below.refl _ _).drew (by simp)).grown h (by simp) hr) (Nat.lt_of_lt_of_le (by simp) h.size)
theorem KTC1 {Z w1 : World} {k : Int} {row : Option Nat} (h : ((Z.alloc (.cells #[.int .i64 k] 3)).alloc (.cells #[] 3)).drew.grownBy w1 row) (hr : some Z.heap.size ≠ row) : RS 1 CI 0 w1 (.slice (some ⟨Z.heap.size, 0, none⟩) [k].length 1) [k] := by
 have h1 := (blk_new Z [.int .i64 k] 3).below (below_alloc _ (.cells #[] 3)) (by simp)
 exact blk_rs ((h1.below (Below.refl _ _).drew (by simp; omega)).grown h (by simp; omega) hr) (Nat.lt_of_lt_of_le (by simp; omega) h.size)
theorem fill_ints {B : Nat} {w : World} {us : List Int} {xs : List Value} (h : Fill 1 CI B us us.length xs w) : xs = us.map (Value.int .i64) := by
 apply List.ext_getElem?
 intro i
 by_cases hi : i < us.length
 .obtain ⟨cs, hc, hj⟩ := h.2 i hi hi
  have := hj 0 (by omega)
  cases hc
  rw [Nat.mul_one, Nat.add_zero] at this
  rw [this, List.getElem?_map, List.getElem?_eq_getElem hi]
  rfl
 .have h1 : xs.length = us.length := by rw [h.1, Nat.mul_one]
  rw [List.getElem?_eq_none (by omega), List.getElem?_eq_none (by rw [List.length_map]; omega)]
theorem row3 {W w : World} {b : Nat} {v : Value} {xs ys zs : List Int} {n1 n2 n3 : List Value} {w1 w2 w3 : World} {B1 B2 B3 : Nat} (h : w.ownsRow b 3 1 v (0 + xs.length + ys.length + zs.length) ([] ++ n1 ++ n2 ++ n3)) (f1 : Fill 1 CI B1 xs xs.length n1 w1) (f2 : Fill 1 CI B2 ys ys.length n2 w2) (f3 : Fill 1 CI B3 zs zs.length n3 w3) (hb : W.heap.size <= b) (hn : v ≠ .slice none 0 0) : ∃ g c, v = .slice (some ⟨g, 0, none⟩) (xs ++ ys ++ zs).length c /\ IGr W.heap.size w (.slice (some ⟨g, 0, none⟩) (xs ++ ys ++ zs).length c) (xs ++ ys ++ zs) := by
 have e1 := fill_ints f1
 have e2 := fill_ints f2
 have e3 := fill_ints f3
 have hl : (xs ++ ys ++ zs).length = 0 + xs.length + ys.length + zs.length := by simp; omega
 obtain ⟨h1, h2⟩ := h
 rcases h2 with ⟨e, _⟩ | ⟨g, cap, cur, rfl, hg, hr⟩
 .exact absurd e hn
 .refine ⟨g, cap, by rw [hl], ?_⟩
  unfold IGr
  rw [hl]
  refine ⟨by simp; omega, .inr ⟨g, cap, cur, rfl, Nat.le_trans hb hg, ?_⟩⟩
  rw [show (xs ++ ys ++ zs).map (Value.int .i64) = [] ++ n1 ++ n2 ++ n3 by rw [e1, e2, e3]; simp]
  exact hr
theorem keys_spec (bb : Nat) (ck : Int) (ma : Option Addr) (mc : Nat) (hv tv rv sv : Value) (op : Bool) (md bg : Int) (oa : Option Addr) (oc : Nat) (cms : List Com) (own : List Cel) (tb : Int) (w : World) (hm : BM cms) (ht : (allC cms own).length <= 1048576) (hbb : bb < w.heap.size)
 (hB : Blk w bb [.int .i64 ck, .slice ma cms.length mc, hv, tv]) (hms : RS 2 CCm 0 w (.slice ma cms.length mc) cms) (hown : RS 4 CC 0 w (.slice oa own.length oc) own) :
 Calls Tryz.prog 58 #[.pointer (some ⟨bb, 0, none⟩), .agg #[.bool op, .int .i64 md, .int .i64 bg, .slice oa own.length oc, rv, sv], .int .i64 tb] w fun e w' => ∃ (a : Option Addr) (c : Nat), e = .returned (.slice a (keysF cms own tb).length c) /\ RS 1 CI w.heap.size w' (.slice a (keysF cms own tb).length c) (keysF cms own tb) /\ Below w.heap.size w w' := by
 obtain ⟨i0, hi, hz0, hz1, hz2⟩ := info_parts infoInt
 obtain ⟨j0, hj, hy0, hy1, hy2⟩ := info_parts infoCel
 have bw := below_alloc w (.cells #[.bool op, .int .i64 md, .int .i64 bg, .slice oa own.length oc, rv, sv] 70)
 have bw2 : Below w.heap.size w ((w.alloc (.cells #[.bool op, .int .i64 md, .int .i64 bg, .slice oa own.length oc, rv, sv] 70)).alloc (.cells #[] 106)) := bw.alloc bw.size _
 have HO1 : Hid (((w.alloc (.cells #[.bool op, .int .i64 md, .int .i64 bg, .slice oa own.length oc, rv, sv] 70)).alloc (.cells #[] 106)).ownsRow w.heap.size 106 4 (.slice (some ⟨w.heap.size + 1, 0, none⟩) 0 0) 0 []) := hid (by
  have := World.ownsRow_made (base := w.heap.size) (e := 106) (size := 4) (w.alloc (.cells #[.bool op, .int .i64 md, .int .i64 bg, .slice oa own.length oc, rv, sv] 70)) #[] 0 (by simp) (by unfold maxLen; omega) (by simp)
  simpa using this)
 have b1 : w.cell? ⟨bb, 1, none⟩ = some (.slice ma cms.length mc) := (hB 1 (by simp)).1
 have HMS := hid hms
 have HOW := hid hown
 have hml := hm.1
 have hol : own.length <= 1048576 := by unfold allC at ht; rw [List.length_append] at ht; omega
 have HT := hid ht
 clear hown hB hms hm ht
 go_enter Tryz.func58, Tryz.ntmps58
 go_wp2_with (at_builtin; go_loud (refine wpList_append_rs liesC oneC _ rfl (.tmp 14) (.tmp 16) 67 rfl w.heap.size 106 j0 _ 32 Tryz.underlying67 hj hy0 hy1 hy2 rfl (by decide) _ 0 [] rfl HO1.out oa oc own rfl (HOW.out.below liesC bw2) (by unfold maxLen; omega) (by omega) (by simp; omega) ?_; intro news v' w' hfill hown hgrow _; have bw3 : Below w.heap.size w w' := bw2.grown hgrow bw2.size (fun q hq => (HO1.out.lt q hq).1); have HFI : Hid (Fill 4 CC 0 own own.length news w) := fillC hfill; obtain ⟨la, lc, hlv⟩ := formR hown; subst hlv; rw [Nat.zero_add, List.nil_append] at hown; have HRO := hid hown; clear hown hgrow hfill; have b1 : w'.cell? ⟨bb, 1, none⟩ = some (.slice ma cms.length mc) := (bw3.cell (p := ⟨bb, 1, none⟩) hbb).trans b1))
 clear b1
 go_loopw [7, 23] (fun lv iv wr => ∃ (k : Nat) (us : List Cel) (xs : List Value) (la : Option Addr) (lc : Nat), k <= cms.length /\ iv = .int .i64 k /\ lv = .slice la us.length lc /\ Hid (us = allC (cms.take k) own) /\ Hid (wr.ownsRow w.heap.size 106 4 (.slice la us.length lc) us.length xs) /\ Hid (Fill 4 CC 0 us us.length xs w) /\ Below w.heap.size w wr) (fun _ iv _ => cms.length - (intOf iv).toNat)
 case atStart => exact ⟨0, own, news, la, lc, Nat.zero_le _, rfl, rfl, (by simp [allC] : own = allC (cms.take 0) own), HRO, HFI, bw3⟩
 case round =>
  clear HRO HFI bw3 bw2 bw HO1
  obtain ⟨k, us, xs, la, lc, hk, rfl, rfl, HU, HRO, HFI, hbel⟩ := hrel
  have hbs := hbel.size
  have hul : us.length <= 1048576 := by rw [HU.out]; exact Nat.le_trans allC_le HT.out
  by_cases hlt : k < cms.length
  .have hlti : (k : Int) < cms.length := by omega
   obtain ⟨g, o, rfl, hg, hgc⟩ := com_at HMS.out (by omega)
   obtain ⟨ea, ec, c0, c1, hrc⟩ := hgc k hlt
   have HAS := hid (allC_step (own := own) hlt)
   have HRC := hid hrc
   have hle : us.length + cms[k].cs.length <= 1048576 := by
    have := Nat.le_trans (allC_le (cms := cms) (own := own) (k := k + 1)) HT.out
    rw [HAS.out, List.length_append, <- HU.out] at this
    exact this
   clear hgc hrc
   generalize cms[k] = m at c0 c1 HAS HRC hle
   replace c0 := (hbel.cell (p := ⟨g, o + k * 2, none⟩) hg).trans c0
   replace c1 := (hbel.cell (p := ⟨g, o + k * 2 + 1, none⟩) hg).trans c1
   have bwA : Below w.heap.size w (wr.alloc (.cells #[.int .i64 m.st, .slice ea m.cs.length ec] 140)) := hbel.alloc hbs _
   have HOA := hid (own_below HRO.out (below_alloc wr (.cells #[.int .i64 m.st, .slice ea m.cs.length ec] 140)))
   clear HRO
   go_wp2_with (at_builtin; refine wpList_append_rs liesC oneC _ rfl (.tmp 27) (.tmp 29) 67 rfl w.heap.size 106 j0 _ 32 Tryz.underlying67 hj hy0 hy1 hy2 rfl (by decide) _ us.length xs rfl HOA.out ea ec m.cs rfl (HRC.out.below liesC bwA) (by unfold maxLen; omega) (by omega) (by simp; omega) ?_; intro news v' w' hfill hown hgrow _; have bw3 : Below w.heap.size w w' := bwA.grown hgrow bwA.size (fun q hq => (HOA.out.lt q hq).1); have HFN : Hid (Fill 4 CC 0 (us ++ m.cs) (us ++ m.cs).length (xs ++ news) w) := HFI.out.append (fillC hfill); obtain ⟨na, nc, hlv⟩ := formR hown; subst hlv; have HRN := hid hown; clear hown hgrow hfill)
   go_roundw
   case rel => exact ⟨k + 1, us ++ m.cs, _, na, nc, by omega, by go_num, by rw [List.length_append], (by rw [HAS.out, <- HU.out] : us ++ m.cs = allC (cms.take (k + 1)) own), hid (by rw [List.length_append]; exact HRN.out), HFN, bw3⟩
   case measure => simp [intOf]; omega
  .have hkn : k = cms.length := by omega
   subst hkn
   have hlti : ¬ (cms.length : Int) < cms.length := by omega
   rw [List.take_length] at HU
   have HRS : Hid (RS 4 CC 0 wr (.slice la us.length lc) us) := (Fill.own liesC (fillC (B' := 0) (w' := wr) HFI.out) (own_base0 HRO.out) (Nat.le_refl _))
   have OR : Hid (IGr wr.heap.size (wr.alloc (.cells #[] 3)) (.slice (some ⟨wr.heap.size, 0, none⟩) ([] : List Int).length 0) []) := World.ownsRow_made wr #[] 0 (Nat.le_refl _) (by unfold maxLen; omega) (by simp)
   have bA := below_alloc wr (.cells #[] 3)
   have HKF : Hid (keysF cms own tb = foldK tb us) := hid (by unfold keysF; rw [<- HU.out])
   clear HRO HFI HU
   go_wp2
   obtain ⟨W, hW⟩ : ∃ x, x = wr := ⟨_, rfl⟩
   subst hW
   go_loopw [10, 35] (fun ov iv wx => ∃ (k : Nat) (out : List Int) (qg qc : Nat), k <= us.length /\ iv = .int .i64 k /\ ov = .slice (some ⟨qg, 0, none⟩) out.length qc /\ Hid (out = foldK tb (us.take k)) /\ Hid (IGr W.heap.size wx (.slice (some ⟨qg, 0, none⟩) out.length qc) out) /\ Below W.heap.size W wx) (fun _ iv _ => us.length - (intOf iv).toNat)
   case atStart => exact ⟨0, [], _, 0, Nat.zero_le _, rfl, rfl, (by simp [foldK] : ([] : List Int) = foldK tb (us.take 0)), OR, bA⟩
   case round =>
    clear OR bA
    obtain ⟨k, out, qg, qc, hk, rfl, rfl, HOE, HOR, hbx⟩ := hrel
    have hxs := hbx.size
    have hoL : out.length <= 1048576 := by rw [HOE.out]; exact Nat.le_trans (foldK_len _ _) (by rw [List.length_take]; omega)
    by_cases hlt : k < us.length
    .have hlti : (k : Int) < us.length := by omega
     obtain ⟨g, o, rfl, _, hg, hgc⟩ := cel_at HRS.out (by omega)
     obtain ⟨c0, c1, c2, c3⟩ := hgc k hlt
     have HFS := hid (foldK_step (tb := tb) hlt)
     clear hgc
     generalize us[k] = c at c0 c1 c2 c3 HFS
     obtain ⟨ct, cky, cv, cg⟩ := c
     simp only at c0 c1 c2 c3
     replace c0 := (hbx.cell (p := ⟨g, o + k * 4, none⟩) hg).trans c0
     replace c1 := (hbx.cell (p := ⟨g, o + k * 4 + 1, none⟩) hg).trans c1
     replace c2 := (hbx.cell (p := ⟨g, o + k * 4 + 2, none⟩) hg).trans c2
     replace c3 := (hbx.cell (p := ⟨g, o + k * 4 + 3, none⟩) hg).trans c3
     have hgw : g < wr.heap.size := by omega
     have bwA : Below W.heap.size W (wr.alloc (.cells #[.int .i64 ct, .int .i64 cky, .int .i64 cv, .bool cg] 106)) := hbx.alloc hxs _
     have KC := hid (blk_new wr [.int .i64 ct, .int .i64 cky, .int .i64 cv, .bool cg] 106)
     have HOA := hid (HOR.out.below (below_alloc wr (.cells #[.int .i64 ct, .int .i64 cky, .int .i64 cv, .bool cg] 106)))
     have hzc : wr.heap.size < (wr.alloc (.cells #[.int .i64 ct, .int .i64 cky, .int .i64 cv, .bool cg] 106)).heap.size := by simp
     by_cases hct : ct = tb
     .have hcb : (ct != tb) = false := by simpa using hct
      have HPK : Hid (foldK tb (us.take (k + 1)) = insK out cky) := hid (by rw [HFS.out]; unfold putK; rw [if_pos hct, <- HOE.out])
      clear HFS hct
      go_wp2
      obtain ⟨gc, hgce⟩ : ∃ x, x = wr.heap.size := ⟨_, rfl⟩
      rw [<- hgce] at KC hzc
      rw [<- hgce]
      obtain ⟨Y, hY⟩ : ∃ x, x = wr.alloc (.cells #[.int .i64 ct, .int .i64 cky, .int .i64 cv, .bool cg] 106) := ⟨_, rfl⟩
      rw [<- hY] at KC HOA bwA hzc
      rw [<- hY]
      clear hY hgce c0 c1 c2 c3 hbx hxs
      go_loopw [13] (fun jv wx => ∃ (j : Nat), j <= out.length /\ jv = .int .i64 j /\ Hid (∀ i (h : i < out.length), i < j -> out[i] < cky) /\ Below Y.heap.size Y wx) (fun jv _ => out.length - (intOf jv).toNat)
      case atStart => exact ⟨0, Nat.zero_le _, rfl, (fun i _ h => by omega : ∀ i (h : i < out.length), i < 0 -> out[i] < cky), Below.refl _ _⟩
      case round =>
       obtain ⟨j, hj, rfl, HLT, hby⟩ := hrel
       have hys := hby.size
       have k1 : wr.cell? ⟨gc, 1, none⟩ = some (.int .i64 cky) := ((KC.out.below hby hzc) 1 (by simp)).1
       have HOB := hid (HOA.out.below hby)
       have bwB : Below W.heap.size W wr := bwA.trans (hby.mono bwA.size)
       by_cases hjl : j < out.length
       .have hjli : (j : Int) < out.length := by omega
        have c0 : wr.cell? ⟨qg, j, none⟩ = some (.int .i64 out[j]) := own_cell HOB.out (by rw [List.getElem?_map, List.getElem?_eq_getElem hjl]; rfl)
        have hqg : qg < wr.heap.size := (HOB.out.lt rfl).2
        by_cases hlk : out[j] < cky
        .have HL2 : Hid (∀ i (h : i < out.length), i < j + 1 -> out[i] < cky) := hid (fun i h hi => by
          by_cases e : i = j
          .subst e; exact hlk
          .exact HLT.out i h (by omega))
         generalize out[j] = y at c0 hlk
         clear HLT
         have g1 : decide ((j : Int) < out.length) = true := decide_eq_true (by omega)
         have g1n : decide (j < out.length) = true := decide_eq_true (by omega)
         have g2 : decide (y < cky) = true := decide_eq_true (by omega)
         go_wp2
         go_quiet (fail)
         go_wp2
         go_roundw
         case rel => exact ⟨j + 1, by omega, by go_num, HL2, hby.trans ((below_drewNt _ _).mono hys)⟩
         case measure => simp [intOf]; omega
        .by_cases hek : out[j] = cky
         .have HV : Hid (out = foldK tb (us.take (k + 1))) := hid (by rw [HPK.out, insK_there hjl HLT.out hek])
          generalize out[j] = y at c0 hlk hek
          clear HLT
          have g1 : decide ((j : Int) < out.length) = true := decide_eq_true (by omega)
          have g1n : decide (j < out.length) = true := decide_eq_true (by omega)
          have g2 : decide (y < cky) = false := decide_eq_false (by omega)
          have g3 : ((j : Int) == (out.length : Int)) = false := by simp; omega
          have g4 : (y != cky) = false := by simpa using hek
          clear hek
          go_wp2
          go_quiet (fail)
          go_wp2
          go_quiet (fail)
          go_wp2
          go_roundw
          case rel => exact ⟨k + 1, out, _, qc, by omega, by go_num, rfl, HV, hid (HOB.out.below (below_drewNt _ _)), bwB.trans ((below_drewNt _ _).mono bwB.size)⟩
          case measure => simp [intOf]; omega
         .have HV : Hid (foldK tb (us.take (k + 1)) = out.take j ++ [cky] ++ out.drop j) := hid (by rw [HPK.out, insK_new hj HLT.out (fun _ => by omega)])
          generalize out[j] = y at c0 hlk hek
          clear HLT
          have g1 : decide ((j : Int) < out.length) = true := decide_eq_true (by omega)
          have g1n : decide (j < out.length) = true := decide_eq_true (by omega)
          have g2 : decide (y < cky) = false := decide_eq_false (by omega)
          have g3 : ((j : Int) == (out.length : Int)) = false := by simp; omega
          have g4 : (y != cky) = true := by simpa using hek
          clear hek
          go_wp2
          go_quiet (fail)
          go_wp2
          go_quiet (fail)
          go_wp2
          rename_i _ nq2
          obtain ⟨Z, hZ⟩ : ∃ z, z = (wr.drewN nq2).drewN nq := ⟨_, rfl⟩
          have bZ : Below wr.heap.size wr Z := by rw [hZ]; exact (below_drewNt _ _).trans ((below_drewNt _ _).mono (below_drewNt _ _).size)
          rw [<- hZ]
          clear hZ
          have HOZ := hid (HOB.out.below bZ)
          have hcapI := HOZ.out.capI
          have hjq : j <= qc := by omega
          have hjqi : (j : Int) <= qc := by omega
          have hzw : gc < wr.heap.size := Nat.lt_of_lt_of_le hzc hys
          have KCZ := hid ((KC.out.below hby hzc).below bZ hzw)
          have hzcZ : gc < Z.heap.size := Nat.lt_of_lt_of_le hzw bZ.size
          have z1 : Z.cell? ⟨gc, 1, none⟩ = some (.int .i64 cky) := (KCZ.out 1 (by simp)).1
          have bwZ : Below W.heap.size W Z := bwB.trans (bZ.mono bwB.size)
          have HP1 : Hid (∀ X, Below Z.heap.size Z X -> RS 1 CI 0 X (.slice (some ⟨qg, 0, none⟩) (out.take j).length qc) (out.take j)) := hid (fun X hX => ((part_rs HOZ.out.rs j hj).below liesI hX).mono liesI (Nat.zero_le _))
          have OA : Hid (((Z.alloc (.cells #[] 3)).drew).ownsRow Z.heap.size 3 1 (.slice (some ⟨Z.heap.size, 0, none⟩) 0 0) 0 []) := (World.ownsRow_made (base := Z.heap.size) (e := 3) (size := 1) Z #[] 0 (Nat.le_refl _) (by unfold maxLen; omega) (by simp)).drew
          have OB : Hid ((((Z.alloc (.cells #[] 3)).alloc (.cells #[.int .i64 cky] 3)).drew).ownsRow Z.heap.size 3 1 (.slice (some ⟨Z.heap.size, 0, none⟩) 0 0) 0 []) := ((World.ownsRow_made (base := Z.heap.size) (e := 3) (size := 1) Z #[] 0 (Nat.le_refl _) (by unfold maxLen; omega) (by simp)).alloc (.cells #[.int .i64 cky] 3)).drew
          have OC : Hid ((((Z.alloc (.cells #[.int .i64 cky] 3)).alloc (.cells #[] 3)).drew).ownsRow Z.heap.size 3 1 (.slice (some ⟨Z.heap.size + 1, 0, none⟩) 0 0) 0 []) := hid (by
           have := World.ownsRow_made (base := Z.heap.size) (e := 3) (size := 1) (Z.alloc (.cells #[.int .i64 cky] 3)) #[] 0 (by simp) (by unfold maxLen; omega) (by simp)
           simpa using this.drew)
          have HP2 : Hid (∀ d X, Below Z.heap.size Z X -> RS 1 CI 0 X (.slice (if qc = j then some ⟨qg, 0, none⟩ else some ⟨qg, j, none⟩) (out.drop j).length d) (out.drop j)) := hid (fun d X hX => by
           split
           .exact ⟨_, d, rfl, fun h => absurd h (by rw [List.length_drop]; omega)⟩
           .have := ((rest_rs (d := d) HOZ.out.rs j hj).below liesI hX).mono liesI (Nat.zero_le _)
            rw [Nat.zero_add] at this
            exact this)
          go_region_law (first
           | go_loud (
              refine step_append_rs liesI oneI rfl (.tmp 71) (.tmp 74) 32 rfl Z.heap.size 3 i0 (.int .i64 0) 8 Tryz.underlying32 hi hz0 hz1 hz2 rfl (by decide) (.slice (some ⟨_, 0, none⟩) 0 0) 0 [] rfl ?_ _ _ (out.take j) _ ?_ rfl ?_ ?_ ?_ ?_ ?_
              .first | (with_reducible first | exact OA.out | exact OB.out | exact OC.out)
              .first | (simp; done) | (simp; omega)
              .exact HP1.out _ bl
              .unfold maxLen; first | (simp; done) | (simp; omega)
              .first | (simp; done) | (simp; omega)
              .first | (simp; done) | (simp; omega) | omega
              intro news1 v1 w1 hf1 hown1 hgrow1 _ hnil1
              have bz1 : Below Z.heap.size Z w1 := by
               refine Below.grown ?_ hgrow1 ?_ ?_
               .exact bl
               .first | (simp; done) | (simp; omega) | omega
               .intro q hq; simp [Value.ownBlock] at hq; omega
              have HN1 := hid hnil1
              have HF1 := hid hf1
              have HG1 : Hid (Z.heap.size + 1 < w1.heap.size \/ w1.heap.size = w1.heap.size) := .inr rfl
              have z1 : w1.cell? ⟨gc, 1, none⟩ = some (.int .i64 cky) := ((KCZ.out.below bz1 hzcZ) 1 (by simp)).1
              first
               | have KT := hid (KTB1 hgrow1 (by simp [Value.ownBlock]))
               | have KT := hid (KTC1 hgrow1 (by simp [Value.ownBlock]))
               | skip
              clear hf1 hnil1 hgrow1)
           | go_loud (
              refine step_append_rs liesI oneI rfl (.tmp 75) (.tmp 78) 32 rfl Z.heap.size 3 i0 (.int .i64 0) 8 Tryz.underlying32 hi hz0 hz1 hz2 rfl (by decide) v1 (0 + (out.take j).length) ([] ++ news1) rfl ?_ (some ⟨_, 0, none⟩) 1 [cky] 1 (show [cky].length = 1 from rfl) rfl ?_ ?_ ?_ ?_ ?_
              .first | with_reducible exact hown1 | with_reducible exact hown1.alloc _
              .first | with_reducible exact KT.out | exact one_rs _ _ _ (by simp)
              .unfold maxLen; first | (simp; done) | (simp; omega)
              .first | (simp; done) | (simp; omega)
              .have := bz1.size; first | (simp; done) | (simp; omega) | omega
              intro news2 v2 w2 hf2 hown2 hgrow2 _ hnil2
              have bz2 : Below Z.heap.size Z w2 := by
               refine Below.grown ?_ hgrow2 ?_ ?_
               .first | with_reducible exact bz1 | with_reducible exact bz1.alloc bz1.size _
               .have := bz1.size; first | (simp; done) | (simp; omega) | omega
               .intro q hq; exact (hown1.lt q hq).1
              have HN2 := hid hnil2
              have HF2 := hid hf2
              clear hf2 hnil2 hgrow2 hown1)
           | go_loud (
              refine step_append_rs liesI oneI rfl (.tmp 79) (.tmp 82) 32 rfl Z.heap.size 3 i0 (.int .i64 0) 8 Tryz.underlying32 hi hz0 hz1 hz2 rfl (by decide) v2 (0 + (out.take j).length + [cky].length) ([] ++ news1 ++ news2) rfl hown2 _ _ (out.drop j) _ ?_ rfl ?_ ?_ ?_ ?_ ?_
              .first | (simp; done) | (simp; omega)
              .exact HP2.out _ _ bz2
              .unfold maxLen; first | (simp; done) | (simp; omega)
              .first | (simp; done) | (simp; omega)
              .have := bz2.size; omega
              intro news3 v3 w3 hf3 hown3 hgrow3 _ hnil3
              have bz3 : Below Z.heap.size Z w3 := by
               refine Below.grown bz2 hgrow3 bz2.size ?_
               intro q hq; exact (hown2.lt q hq).1
              have HN3 := hid hnil3
              have HF3 := hid hf3
              have HO3 := hid hown3
              clear hf3 hnil3 hgrow3 hown2 hown3))
          all_goals
           obtain ⟨g3, c3, hv3, ho3⟩ := row3 (W := W) HO3.out HF1.out HF2.out HF3.out bwZ.size (fun e => absurd (HN1.out.1 ((HN2.out.1 ((HN3.out.1 e).1)).1)).1 (by simp))
           subst hv3
           have HNEW := hid ho3
           have bw3 : Below W.heap.size W w3 := bwZ.trans (bz3.mono bwZ.size)
           clear HO3 HF1 HF2 HF3 HN1 HN2 HN3 OA OB OC HP1 HP2 KCZ ho3
           go_wp2
           go_roundw
           case rel => exact ⟨k + 1, out.take j ++ [cky] ++ out.drop j, g3, c3, by omega, by go_num, by first | rfl | (simp; done) | (simp; omega), HV.out.symm, HNEW, bw3⟩
           case measure => simp [intOf]; omega
       .have hje : j = out.length := by omega
        subst hje
        have HV : Hid (foldK tb (us.take (k + 1)) = out.take out.length ++ [cky] ++ out.drop out.length) := hid (by rw [HPK.out, insK_new (Nat.le_refl _) HLT.out (fun h => by omega)])
        clear HLT
        have g1 : decide ((out.length : Int) < out.length) = false := decide_eq_false (by omega)
        have g1n : decide (out.length < out.length) = false := decide_eq_false (by omega)
        have g3 : ((out.length : Int) == (out.length : Int)) = true := by simp
        go_wp2
        go_quiet (fail)
        go_wp2
        go_quiet (fail)
        go_wp2
        rename_i _ nq2
        obtain ⟨Z, hZ⟩ : ∃ z, z = (wr.drewN nq2).drewN nq := ⟨_, rfl⟩
        have bZ : Below wr.heap.size wr Z := by rw [hZ]; exact (below_drewNt _ _).trans ((below_drewNt _ _).mono (below_drewNt _ _).size)
        rw [<- hZ]
        clear hZ
        have HOZ := hid (HOB.out.below bZ)
        have hcapI := HOZ.out.capI
        have hjq : out.length <= qc := by omega
        have hjqi : (out.length : Int) <= qc := by omega
        have hzw : gc < wr.heap.size := Nat.lt_of_lt_of_le hzc hys
        have KCZ := hid ((KC.out.below hby hzc).below bZ hzw)
        have hzcZ : gc < Z.heap.size := Nat.lt_of_lt_of_le hzw bZ.size
        have z1 : Z.cell? ⟨gc, 1, none⟩ = some (.int .i64 cky) := (KCZ.out 1 (by simp)).1
        have bwZ : Below W.heap.size W Z := bwB.trans (bZ.mono bwB.size)
        have HP1 : Hid (∀ X, Below Z.heap.size Z X -> RS 1 CI 0 X (.slice (some ⟨qg, 0, none⟩) (out.take out.length).length qc) (out.take out.length)) := hid (fun X hX => ((part_rs HOZ.out.rs out.length hj).below liesI hX).mono liesI (Nat.zero_le _))
        have OA : Hid (((Z.alloc (.cells #[] 3)).drew).ownsRow Z.heap.size 3 1 (.slice (some ⟨Z.heap.size, 0, none⟩) 0 0) 0 []) := (World.ownsRow_made (base := Z.heap.size) (e := 3) (size := 1) Z #[] 0 (Nat.le_refl _) (by unfold maxLen; omega) (by simp)).drew
        have OB : Hid ((((Z.alloc (.cells #[] 3)).alloc (.cells #[.int .i64 cky] 3)).drew).ownsRow Z.heap.size 3 1 (.slice (some ⟨Z.heap.size, 0, none⟩) 0 0) 0 []) := ((World.ownsRow_made (base := Z.heap.size) (e := 3) (size := 1) Z #[] 0 (Nat.le_refl _) (by unfold maxLen; omega) (by simp)).alloc (.cells #[.int .i64 cky] 3)).drew
        have OC : Hid ((((Z.alloc (.cells #[.int .i64 cky] 3)).alloc (.cells #[] 3)).drew).ownsRow Z.heap.size 3 1 (.slice (some ⟨Z.heap.size + 1, 0, none⟩) 0 0) 0 []) := hid (by
         have := World.ownsRow_made (base := Z.heap.size) (e := 3) (size := 1) (Z.alloc (.cells #[.int .i64 cky] 3)) #[] 0 (by simp) (by unfold maxLen; omega) (by simp)
         simpa using this.drew)
        have HP2 : Hid (∀ d X, Below Z.heap.size Z X -> RS 1 CI 0 X (.slice (if qc = out.length then some ⟨qg, 0, none⟩ else some ⟨qg, out.length, none⟩) (out.drop out.length).length d) (out.drop out.length)) := hid (fun d X hX => by
         split
         .exact ⟨_, d, rfl, fun h => absurd h (by rw [List.length_drop]; omega)⟩
         .have := ((rest_rs (d := d) HOZ.out.rs out.length hj).below liesI hX).mono liesI (Nat.zero_le _)
          rw [Nat.zero_add] at this
          exact this)
        go_region_law (first
         | go_loud (
            refine step_append_rs liesI oneI rfl (.tmp 71) (.tmp 74) 32 rfl Z.heap.size 3 i0 (.int .i64 0) 8 Tryz.underlying32 hi hz0 hz1 hz2 rfl (by decide) (.slice (some ⟨_, 0, none⟩) 0 0) 0 [] rfl ?_ _ _ (out.take out.length) _ ?_ rfl ?_ ?_ ?_ ?_ ?_
            .first | (with_reducible first | exact OA.out | exact OB.out | exact OC.out)
            .first | (simp; done) | (simp; omega)
            .exact HP1.out _ bl
            .unfold maxLen; first | (simp; done) | (simp; omega)
            .first | (simp; done) | (simp; omega)
            .first | (simp; done) | (simp; omega) | omega
            intro news1 v1 w1 hf1 hown1 hgrow1 _ hnil1
            have bz1 : Below Z.heap.size Z w1 := by
             refine Below.grown ?_ hgrow1 ?_ ?_
             .exact bl
             .first | (simp; done) | (simp; omega) | omega
             .intro q hq; simp [Value.ownBlock] at hq; omega
            have HN1 := hid hnil1
            have HF1 := hid hf1
            have HG1 : Hid (Z.heap.size + 1 < w1.heap.size \/ w1.heap.size = w1.heap.size) := .inr rfl
            have z1 : w1.cell? ⟨gc, 1, none⟩ = some (.int .i64 cky) := ((KCZ.out.below bz1 hzcZ) 1 (by simp)).1
            first
             | have KT := hid (KTB1 hgrow1 (by simp [Value.ownBlock]))
             | have KT := hid (KTC1 hgrow1 (by simp [Value.ownBlock]))
             | skip
            clear hf1 hnil1 hgrow1)
         | go_loud (
            refine step_append_rs liesI oneI rfl (.tmp 75) (.tmp 78) 32 rfl Z.heap.size 3 i0 (.int .i64 0) 8 Tryz.underlying32 hi hz0 hz1 hz2 rfl (by decide) v1 (0 + (out.take out.length).length) ([] ++ news1) rfl ?_ (some ⟨_, 0, none⟩) 1 [cky] 1 (show [cky].length = 1 from rfl) rfl ?_ ?_ ?_ ?_ ?_
            .first | with_reducible exact hown1 | with_reducible exact hown1.alloc _
            .first | with_reducible exact KT.out | exact one_rs _ _ _ (by simp)
            .unfold maxLen; first | (simp; done) | (simp; omega)
            .first | (simp; done) | (simp; omega)
            .have := bz1.size; first | (simp; done) | (simp; omega) | omega
            intro news2 v2 w2 hf2 hown2 hgrow2 _ hnil2
            have bz2 : Below Z.heap.size Z w2 := by
             refine Below.grown ?_ hgrow2 ?_ ?_
             .first | with_reducible exact bz1 | with_reducible exact bz1.alloc bz1.size _
             .have := bz1.size; first | (simp; done) | (simp; omega) | omega
             .intro q hq; exact (hown1.lt q hq).1
            have HN2 := hid hnil2
            have HF2 := hid hf2
            clear hf2 hnil2 hgrow2 hown1)
         | go_loud (
            refine step_append_rs liesI oneI rfl (.tmp 79) (.tmp 82) 32 rfl Z.heap.size 3 i0 (.int .i64 0) 8 Tryz.underlying32 hi hz0 hz1 hz2 rfl (by decide) v2 (0 + (out.take out.length).length + [cky].length) ([] ++ news1 ++ news2) rfl hown2 _ _ (out.drop out.length) _ ?_ rfl ?_ ?_ ?_ ?_ ?_
            .first | (simp; done) | (simp; omega)
            .exact HP2.out _ _ bz2
            .unfold maxLen; first | (simp; done) | (simp; omega)
            .first | (simp; done) | (simp; omega)
            .have := bz2.size; omega
            intro news3 v3 w3 hf3 hown3 hgrow3 _ hnil3
            have bz3 : Below Z.heap.size Z w3 := by
             refine Below.grown bz2 hgrow3 bz2.size ?_
             intro q hq; exact (hown2.lt q hq).1
            have HN3 := hid hnil3
            have HF3 := hid hf3
            have HO3 := hid hown3
            clear hf3 hnil3 hgrow3 hown2 hown3))
        all_goals
         obtain ⟨g3, c3, hv3, ho3⟩ := row3 (W := W) HO3.out HF1.out HF2.out HF3.out bwZ.size (fun e => absurd (HN1.out.1 ((HN2.out.1 ((HN3.out.1 e).1)).1)).1 (by simp))
         subst hv3
         have HNEW := hid ho3
         have bw3 : Below W.heap.size W w3 := bwZ.trans (bz3.mono bwZ.size)
         clear HO3 HF1 HF2 HF3 HN1 HN2 HN3 OA OB OC HP1 HP2 KCZ ho3
         go_wp2
         go_roundw
         case rel => exact ⟨k + 1, out.take out.length ++ [cky] ++ out.drop out.length, g3, c3, by omega, by go_num, by first | rfl | (simp; done) | (simp; omega), HV.out.symm, HNEW, bw3⟩
         case measure => simp [intOf]; omega
     .have hcb : (ct != tb) = true := by simpa using hct
      have HV : Hid (out = foldK tb (us.take (k + 1))) := hid (by rw [HFS.out]; unfold putK; rw [if_neg hct]; exact HOE.out)
      clear HFS hct
      go_wp2
      go_roundw
      case rel => exact ⟨k + 1, out, qg, qc, by omega, by go_num, rfl, HV, HOA, bwA⟩
      case measure => simp [intOf]; omega
    .have hkn : k = us.length := by omega
     subst hkn
     have hlti : ¬ (us.length : Int) < us.length := by omega
     have HE : Hid (out = keysF cms own tb) := hid (by rw [HKF.out, HOE.out, List.take_length])
     have HR := hid ((HOR.out.rs).mono liesI hbs)
     clear HOE HOR
     go_wp2
     go_ret
     exact ⟨_, qc, by rw [<- HE.out]; rfl, by rw [<- HE.out]; exact HR.out, hbel.trans (hbx.mono hbs)⟩
end Go.Proofs.YtblkgicbimflhaaGreat
