import Derived.Test.YtblkgicbimflhaaGreatQAO
import Derived.Deep.DeepCutAuto
import Derived.Test.YtblkgicbimflhaaGreatQAL
import Derived.Deep.RegionHeld3
import Derived.Carry
import Derived.Test.YtblkgicbimflhaaGreatQAK
import Derived.Test.YtblkgicbimflhaaGreatQAM
import Derived.Test.YtblkgicbimflhaaGreatQAN
namespace Go.Proofs.YtblkgicbimflhaaGreat
open Go.ChangeShapes Go.WideShapes Go.ChangeAt Go.RowKit
set_option linter.unusedVariables false
set_option linter.unusedSimpArgs false
set_option maxRecDepth 100000
set_option maxHeartbeats 16000000
theorem setL_one (us : List Int) (p : Nat) (u : Int) : (us.set p u).map (Value.int .i64) = (us.map (Value.int .i64)).set p (.int .i64 u) := by rw [List.map_set]
theorem own_set1 {B e n g c : Nat} {w : World} {xs : List Value} (h : w.ownsRow B e 1 (.slice (some ⟨g, 0, none⟩) n c) n xs) (p : Nat) (u : Value) (hp : p < n) : (w.setCell ⟨g, p, none⟩ u).ownsRow B e 1 (.slice (some ⟨g, 0, none⟩) n c) n (xs.set p u) := by
 obtain ⟨h1, h2⟩ := h
 refine ⟨by rw [List.length_set]; exact h1, ?_⟩
 rcases h2 with ⟨h2, _⟩ | ⟨g', cap, cur, h2, h3, h4, h5, h6, h7, h8⟩
 .cases h2
 .injection h2 with h2 _ hc
  injection h2 with h2
  injection h2 with h2 _ _
  subst h2 hc
  refine .inr ⟨g, c, cur.setIfInBounds p u, rfl, h3, ?_, h5, h6, by simpa using h7, ?_⟩
  .rw [setCell_eq_setRow w g p cur e (0, 0) u h4]
   exact setRow_heap w g cur _ e (0, 0) h4
  .rw [Array.toList_setIfInBounds, List.take_set, h8]
theorem put_int_there (B b o : Nat) (cs : List Value) (kv vv : Value) (ks us : List Int) (x u : Int) (w : World) (hb : Blk w b cs) (hbl : b < w.heap.size) (hk : cs[o]? = some kv) (hv : cs[o + 1]? = some vv) (hK : w.ownsRow B 3 1 kv ks.length (ks.map (Value.int .i64))) (hV : w.ownsRow B 3 1 vv ks.length (us.map (Value.int .i64))) (hs : ks.Pairwise (· < ·)) (hn : ks.length < 1048576) (hvb : vv.ownBlock ≠ some b) (hkv : ∀ g, kv.ownBlock = some g -> vv.ownBlock ≠ some g) (hx : ks.contains x = true) :
 Calls Tryz.prog 68 #[.pointer (some ⟨b, o, none⟩), .int .i64 x, .int .i64 u] w fun en w' => PutP B b o 3 1 w cs kv vv (putKs ks x) ((putVs ks us x u).map (Value.int .i64)) en w' := by
 have hol : o < cs.length := (List.getElem?_eq_some_iff.1 hk).1
 have ho1 : o + 1 < cs.length := (List.getElem?_eq_some_iff.1 hv).1
 have c0 : w.cell? ⟨b, o, none⟩ = some kv := (hb o hol).1.trans hk
 have c1 : w.cell? ⟨b, o + 1, none⟩ = some vv := (hb (o + 1) ho1).1.trans hv
 have hbin := bin_any B kv ks x w hK hs (by omega)
 have hmx : x ∈ ks := List.contains_iff_mem.1 hx
 have hp := posN_lt hs hmx
 obtain ⟨g, c, hgv, hgc, hgm, hgl⟩ := own_shape hV (by omega)
 have hul : us.length = ks.length := by have := hV.1; rw [List.length_map, Nat.mul_one] at this; exact this
 have hcell : w.cell? ⟨g, posN ks x, none⟩ = some (.int .i64 (us[posN ks x]'(by omega))) := own_cells hV hgv (by rw [List.getElem?_map, List.getElem?_eq_getElem (by omega)]; rfl)
 have hfro : w.frozen? ⟨g, posN ks x, none⟩ = false := own_unfro hV hgv _
 have eK : putKs ks x = ks := by unfold putKs; rw [if_pos hx]
 have eV : putVs ks us x u = us.set (posN ks x) u := by unfold putVs; rw [if_pos hx]
 rw [eK, eV]
 clear eK eV
 obtain ⟨ka, kc, hkf⟩ := formR hK
 generalize us[posN ks x]'(by omega) = y at hcell
 obtain ⟨p, hpp⟩ : ∃ p, p = posN ks x := ⟨_, rfl⟩
 rw [<- hpp] at hbin hp hcell hfro ⊢
 rw [hx] at hbin
 subst hkf
 subst hgv
 have hgb : g ≠ b := fun z => hvb (by rw [z]; rfl)
 have HF : Hid (∀ (w1 : World), Below w.heap.size w w1 -> w1.heap.size = w.heap.size -> ∀ r, PutP B b o 3 1 w cs (.slice ka ks.length kc) (.slice (some ⟨g, 0, none⟩) ks.length c) ks ((us.set p u).map (Value.int .i64)) (.returned r) (w1.setCell ⟨g, p, none⟩ (.int .i64 u))) := hid (fun w1 b1 hz r => by
  have f1 := Fr.setCell w1 g p (.int .i64 u)
  have hb2 : Blk (w1.setCell ⟨g, p, none⟩ (.int .i64 u)) b cs := (hb.below b1 hbl).other hgb
  refine ⟨.slice ka ks.length kc, .slice (some ⟨g, 0, none⟩) ks.length c, r, rfl, ?_, own_fr (own_below hK b1) f1 (fun q hq e => hkv q hq (by rw [e]; rfl)), ?_, ?_, fun q hq => .inl hq, fun q hq => .inl hq, hkv⟩
  .have e1 : cs.set o (.slice ka ks.length kc) = cs := by
    have := List.getElem?_eq_some_iff.1 hk
    obtain ⟨h1, h2⟩ := this
    rw [<- h2]; exact List.set_getElem_self h1
   have e2 : cs.set (o + 1) (.slice (some ⟨g, 0, none⟩) ks.length c) = cs := by
    obtain ⟨h1, h2⟩ := List.getElem?_eq_some_iff.1 hv
    rw [<- h2]; exact List.set_getElem_self h1
   rw [e1, e2]; exact hb2
  .rw [setL_one]; exact own_set1 (own_below hV b1) p _ hp
  .exact (Fr.of_below _ b1).trans (f1.mono (fun q hq => .inr (.inr (by rw [hq]; rfl)))))
 have hpi : (p : Int) < (ks.length : Int) := by omega
 clear hpp hK hV hb hs hkv hvb hmx hx hul hk hv
 go_enter Tryz.func68, Tryz.ntmps68
 go_wp2_with (go_at_call 82; fail)
 refine hbin.mono ?_
 rintro e w1 ⟨rfl, q, hq⟩
 have b1 : Below w.heap.size w w1 := by rw [hq]; exact below_drewNt w q
 have hz1 : w1.heap.size = w.heap.size := by rw [hq]; rfl
 have HG := hid (HF.out w1 b1 hz1)
 have d1 : w1.cell? ⟨b, o + 1, none⟩ = some (.slice (some ⟨g, 0, none⟩) ks.length c) := ct b1 hbl c1
 have d2 : w1.cell? ⟨g, p, none⟩ = some (.int .i64 y) := ct b1 hgl hcell
 have d3 : w1.frozen? ⟨g, p, none⟩ = false := (b1.frozen (p := ⟨g, p, none⟩) hgl).trans hfro
 clear hq hbin HF b1 hz1 c0 c1 hcell hfro
 go_wp2
 refine bodyPost_ret (results_none rfl _ _ _) rfl ?_
 exact HG.out _
theorem put_int (B b o : Nat) (cs : List Value) (kv vv : Value) (ks us : List Int) (x u : Int) (w : World) (hb : Blk w b cs) (hbl : b < w.heap.size) (hk : cs[o]? = some kv) (hv : cs[o + 1]? = some vv) (hK : w.ownsRow B 3 1 kv ks.length (ks.map (Value.int .i64))) (hV : w.ownsRow B 3 1 vv ks.length (us.map (Value.int .i64))) (hs : ks.Pairwise (· < ·)) (hn : ks.length < 1048576) (hkb : kv.ownBlock ≠ some b) (hvb : vv.ownBlock ≠ some b) (hkv : ∀ g, kv.ownBlock = some g -> vv.ownBlock ≠ some g) (hB : B <= w.heap.size) :
 Calls Tryz.prog 68 #[.pointer (some ⟨b, o, none⟩), .int .i64 x, .int .i64 u] w fun en w' => PutP B b o 3 1 w cs kv vv (putKs ks x) ((putVs ks us x u).map (Value.int .i64)) en w' := by
 cases hx : ks.contains x
 .exact put_int_new B b o cs kv vv ks us x u w hb hbl hk hv hK hV hs hn hkb hvb hkv hB hx
 .exact put_int_there B b o cs kv vv ks us x u w hb hbl hk hv hK hV hs hn hvb hkv hx
theorem own_setJ {B e K n g c : Nat} {w : World} {xs : List Value} (h : w.ownsRow B e K (.slice (some ⟨g, 0, none⟩) n c) n xs) (j : Nat) (u : Value) : (w.setCell ⟨g, j, none⟩ u).ownsRow B e K (.slice (some ⟨g, 0, none⟩) n c) n (xs.set j u) := by
 obtain ⟨h1, h2⟩ := h
 refine ⟨by rw [List.length_set]; exact h1, ?_⟩
 rcases h2 with ⟨h2, _⟩ | ⟨g', cap, cur, h2, h3, h4, h5, h6, h7, h8⟩
 .cases h2
 .injection h2 with h2 _ hc
  injection h2 with h2
  injection h2 with h2 _ _
  subst h2 hc
  refine .inr ⟨g, c, cur.setIfInBounds j u, rfl, h3, ?_, h5, h6, by simpa using h7, ?_⟩
  .rw [setCell_eq_setRow w g j cur e (0, 0) u h4]
   exact setRow_heap w g cur _ e (0, 0) h4
  .rw [Array.toList_setIfInBounds, List.take_set, h8]
theorem flat_set2 (a b : Value) : ∀ (us : List (List Value)) (p : Nat), (∀ l ∈ us, l.length = 2) -> p < us.length -> (us.set p [a, b]).flatten = (us.flatten.set (p * 2) a).set (p * 2 + 1) b
 | [], _, _, h => by cases h
 | l :: r, 0, hl, _ => by
   have h2 := hl l List.mem_cons_self
   match l, h2 with
   | [x, y], _ => rfl
 | l :: r, p + 1, hl, h => by
   have h2 := hl l List.mem_cons_self
   match l, h2 with
   | [x, y], _ =>
     rw [List.set_cons_succ, List.flatten_cons, List.flatten_cons, flat_set2 a b r p (fun z hz => hl z (List.mem_cons_of_mem _ hz)) (by simpa using h)]
     rw [show (p + 1) * 2 = p * 2 + 1 + 1 by omega, show p * 2 + 1 + 1 + 1 = (p * 2 + 1) + 1 + 1 by omega]
     rfl
theorem put_vss_there (B b o : Nat) (cs : List Value) (kv vv : Value) (ks : List Int) (us : List (List Value)) (x : Int) (fa ga : Option Addr) (fm fc gm gc : Nat) (w : World) (hb : Blk w b cs) (hbl : b < w.heap.size) (hk : cs[o]? = some kv) (hv : cs[o + 1]? = some vv) (hK : w.ownsRow B 3 1 kv ks.length (ks.map (Value.int .i64))) (hV : w.ownsRow B 155 2 vv ks.length us.flatten) (hul : us.length = ks.length) (hu2 : ∀ l ∈ us, l.length = 2 /\ ∀ z ∈ l, z.oneCell' = true) (hs : ks.Pairwise (· < ·)) (hn : ks.length < 1048576) (hvb : vv.ownBlock ≠ some b) (hkv : ∀ g, kv.ownBlock = some g -> vv.ownBlock ≠ some g) (hx : ks.contains x = true) :
 Calls Tryz.prog 91 #[.pointer (some ⟨b, o, none⟩), .int .i64 x, .agg #[.slice fa fm fc, .slice ga gm gc]] w fun en w' => PutP B b o 155 2 w cs kv vv (putKs ks x) (putVs ks us x [.slice fa fm fc, .slice ga gm gc]).flatten en w' := by
 have hol : o < cs.length := (List.getElem?_eq_some_iff.1 hk).1
 have ho1 : o + 1 < cs.length := (List.getElem?_eq_some_iff.1 hv).1
 have hb0 := below_alloc w (.cells #[.slice fa fm fc, .slice ga gm gc] 155)
 have c0 : (w.alloc (.cells #[.slice fa fm fc, .slice ga gm gc] 155)).cell? ⟨b, o, none⟩ = some kv := (hb0.cell (p := ⟨b, o, none⟩) hbl).trans ((hb o hol).1.trans hk)
 have c1 : w.cell? ⟨b, o + 1, none⟩ = some vv := (hb (o + 1) ho1).1.trans hv
 have hbin := bin_any B kv ks x _ (own_below hK hb0) hs (by omega)
 have hmx : x ∈ ks := List.contains_iff_mem.1 hx
 have hp := posN_lt hs hmx
 obtain ⟨g, c, hgv, hgc, hgm, hgl⟩ := own_shape hV (by omega)
 have hfl : us.flatten.length = ks.length * 2 := hV.1
 obtain ⟨y1, hy1⟩ : ∃ y, us.flatten[posN ks x * 2]? = some y := ⟨_, List.getElem?_eq_getElem (by omega)⟩
 obtain ⟨y2, hy2⟩ : ∃ y, us.flatten[posN ks x * 2 + 1]? = some y := ⟨_, List.getElem?_eq_getElem (by omega)⟩
 have hcell : w.cell? ⟨g, posN ks x * 2, none⟩ = some y1 := own_cells hV hgv hy1
 have hcell2 : w.cell? ⟨g, posN ks x * 2 + 1, none⟩ = some y2 := own_cells hV hgv hy2
 have hfro : w.frozen? ⟨g, posN ks x * 2, none⟩ = false := own_unfro hV hgv _
 have hfro2 : w.frozen? ⟨g, posN ks x * 2 + 1, none⟩ = false := own_unfro hV hgv _
 have eK : putKs ks x = ks := by unfold putKs; rw [if_pos hx]
 have eV : (putVs ks us x [.slice fa fm fc, .slice ga gm gc]).flatten = (us.flatten.set (posN ks x * 2) (.slice fa fm fc)).set (posN ks x * 2 + 1) (.slice ga gm gc) := by unfold putVs; rw [if_pos hx]; exact flat_set2 _ _ us _ (fun l hl => (hu2 l hl).1) (by omega)
 rw [eK, eV]
 clear eK eV hy1 hy2
 obtain ⟨ka, kc, hkf⟩ := formR hK
 obtain ⟨p, hpp⟩ : ∃ p, p = posN ks x := ⟨_, rfl⟩
 rw [<- hpp] at hbin hp hcell hfro hcell2 hfro2 ⊢
 rw [hx] at hbin
 subst hkf
 subst hgv
 have hgb : g ≠ b := fun z => hvb (by rw [z]; rfl)
 have HF : Hid (∀ (w1 : World), Below w.heap.size w w1 -> ∀ r, PutP B b o 155 2 w cs (.slice ka ks.length kc) (.slice (some ⟨g, 0, none⟩) ks.length c) ks ((us.flatten.set (p * 2) (.slice fa fm fc)).set (p * 2 + 1) (.slice ga gm gc)) (.returned r) ((w1.setCell ⟨g, p * 2, none⟩ (.slice fa fm fc)).setCell ⟨g, p * 2 + 1, none⟩ (.slice ga gm gc))) := hid (fun w1 b1 r => by
  have f1 := Fr.setCell w1 g (p * 2) (.slice fa fm fc)
  have f2 := Fr.setCell (w1.setCell ⟨g, p * 2, none⟩ (.slice fa fm fc)) g (p * 2 + 1) (.slice ga gm gc)
  have hb2 : Blk ((w1.setCell ⟨g, p * 2, none⟩ (.slice fa fm fc)).setCell ⟨g, p * 2 + 1, none⟩ (.slice ga gm gc)) b cs := ((hb.below b1 hbl).other hgb).other hgb
  refine ⟨.slice ka ks.length kc, .slice (some ⟨g, 0, none⟩) ks.length c, r, rfl, ?_, own_fr (own_fr (own_below hK b1) f1 (fun q hq e => hkv q hq (by rw [e]; rfl))) f2 (fun q hq e => hkv q hq (by rw [e]; rfl)), ?_, ?_, fun q hq => .inl hq, fun q hq => .inl hq, hkv⟩
  .have e1 : cs.set o (.slice ka ks.length kc) = cs := by
    have := List.getElem?_eq_some_iff.1 hk
    obtain ⟨h1, h2⟩ := this
    rw [<- h2]; exact List.set_getElem_self h1
   have e2 : cs.set (o + 1) (.slice (some ⟨g, 0, none⟩) ks.length c) = cs := by
    obtain ⟨h1, h2⟩ := List.getElem?_eq_some_iff.1 hv
    rw [<- h2]; exact List.set_getElem_self h1
   rw [e1, e2]; exact hb2
  .exact own_setJ (own_setJ (own_below hV b1) _ _) _ _
  .exact ((Fr.of_below _ b1).trans (f1.mono (fun q hq => .inr (.inr (by rw [hq]; rfl))))).trans (f2.mono (fun q hq => .inr (.inr (by rw [hq]; rfl)))))
 have hpi : (p : Int) < (ks.length : Int) := by omega
 have hgw : ¬ w.heap.size = g := by omega
 have hgw2 : ¬ g = w.heap.size := by omega
 have HPB0 := hid (blk_new w [.slice fa fm fc, .slice ga gm gc] 155)
 clear hpp hK hV hb hs hkv hvb hmx hx hul hk hv hu2 hfl
 go_enter Tryz.func91, Tryz.ntmps91
 go_wp2_with (go_at_call 82; fail)
 refine hbin.mono ?_
 rintro e w1 ⟨rfl, q, hq⟩
 have hbq : Below (w.alloc (.cells #[.slice fa fm fc, .slice ga gm gc] 155)).heap.size (w.alloc (.cells #[.slice fa fm fc, .slice ga gm gc] 155)) w1 := by rw [hq]; exact below_drewNt _ q
 have b1 : Below w.heap.size w w1 := hb0.trans (hbq.mono (by simp))
 have HPB := HPB0.out.below hbq (by simp)
 obtain ⟨e0, e1⟩ := kc1 HPB
 have HG := hid (HF.out w1.drew bl)
 have d1 : w1.cell? ⟨b, o + 1, none⟩ = some (.slice (some ⟨g, 0, none⟩) ks.length c) := ct b1 hbl c1
 have d2 : w1.cell? ⟨g, p * 2, none⟩ = some y1 := (b1.cell (p := ⟨g, p * 2, none⟩) hgl).trans hcell
 have d3 : w1.frozen? ⟨g, p * 2, none⟩ = false := (b1.frozen (p := ⟨g, p * 2, none⟩) hgl).trans hfro
 have d4 : w1.cell? ⟨g, p * 2 + 1, none⟩ = some y2 := (b1.cell (p := ⟨g, p * 2 + 1, none⟩) hgl).trans hcell2
 have d5 : w1.frozen? ⟨g, p * 2 + 1, none⟩ = false := (b1.frozen (p := ⟨g, p * 2 + 1, none⟩) hgl).trans hfro2
 clear hq hbin HF b1 c0 c1 hcell hfro hcell2 hfro2 HPB HPB0 hbq hb0
 go_wp2
 go_region
 all_goals
  go_wp2
  refine bodyPost_ret (results_none rfl _ _ _) rfl ?_
  exact HG.out _
theorem put_vss (B b o : Nat) (cs : List Value) (kv vv : Value) (ks : List Int) (us : List (List Value)) (x : Int) (fa ga : Option Addr) (fm fc gm gc : Nat) (w : World) (hb : Blk w b cs) (hbl : b < w.heap.size) (hk : cs[o]? = some kv) (hv : cs[o + 1]? = some vv) (hK : w.ownsRow B 3 1 kv ks.length (ks.map (Value.int .i64))) (hV : w.ownsRow B 155 2 vv ks.length us.flatten) (hul : us.length = ks.length) (hu2 : ∀ l ∈ us, l.length = 2 /\ ∀ z ∈ l, z.oneCell' = true) (hs : ks.Pairwise (· < ·)) (hn : ks.length < 1048576) (hkb : kv.ownBlock ≠ some b) (hvb : vv.ownBlock ≠ some b) (hkv : ∀ g, kv.ownBlock = some g -> vv.ownBlock ≠ some g) (hB : B <= w.heap.size) :
 Calls Tryz.prog 91 #[.pointer (some ⟨b, o, none⟩), .int .i64 x, .agg #[.slice fa fm fc, .slice ga gm gc]] w fun en w' => PutP B b o 155 2 w cs kv vv (putKs ks x) (putVs ks us x [.slice fa fm fc, .slice ga gm gc]).flatten en w' := by
 cases hx : ks.contains x
 .exact put_vss_new B b o cs kv vv ks us x fa ga fm fc gm gc w hb hbl hk hv hK hV hul hu2 hs hn hkb hvb hkv hB hx
 .exact put_vss_there B b o cs kv vv ks us x fa ga fm fc gm gc w hb hbl hk hv hK hV hul hu2 hs hn hvb hkv hx
def behindB (ks : List Int) (k : Int) : Bool := match ks.getLast? with
 | some t => decide (k < t)
 | none => false
theorem behind_any (B b o : Nat) (kv : Value) (ks : List Int) (k : Int) (w : World) (c0 : w.cell? ⟨b, o, none⟩ = some kv) (hK : w.ownsRow B 3 1 kv ks.length (ks.map (Value.int .i64))) (hn : ks.length <= 1048576) :
 Calls Tryz.prog 87 #[.pointer (some ⟨b, o, none⟩), .int .i64 k] w fun e w' => e = .returned (.bool (behindB ks k)) /\ Below w.heap.size w w' := by
 obtain ⟨ka, kc, hkf⟩ := formR hK
 rcases Nat.eq_zero_or_pos ks.length with h0 | hpos
 .have : ks = [] := List.length_eq_zero_iff.1 h0
  subst this
  rw [List.length_nil] at hkf
  subst hkf
  have e1 : behindB [] k = false := rfl
  rw [e1]
  clear e1 hK hn h0
  go_enter Tryz.func87, Tryz.ntmps87
  go_wp2
  go_quiet (fail)
  go_wp2
  refine bodyPost_ret (v := .bool false) (by simp [results, Tryz.results87, go_sem]) rfl ?_
  exact ⟨rfl, below_drewNt w _⟩
 .obtain ⟨g, c, hgv, hgc, hgm, hgl⟩ := own_shape hK hpos
  have hl : ks.getLast? = some (ks[ks.length - 1]'(by omega)) := by rw [List.getLast?_eq_getElem?]; exact List.getElem?_eq_getElem (by omega)
  have hcell : w.cell? ⟨g, ks.length - 1, none⟩ = some (.int .i64 (ks[ks.length - 1]'(by omega))) := own_cells hK hgv (by rw [List.getElem?_map, List.getElem?_eq_getElem (by omega)]; rfl)
  have e1 : behindB ks k = decide (k < ks[ks.length - 1]'(by omega)) := by unfold behindB; rw [hl]
  rw [e1]
  clear e1 hl hkf
  subst hgv
  generalize ks[ks.length - 1]'(by omega) = t at hcell ⊢
  obtain ⟨m, hm⟩ : ∃ m, ks.length = m + 1 := ⟨ks.length - 1, by omega⟩
  rw [hm] at hcell c0 hn
  rw [Nat.add_sub_cancel] at hcell
  have hw1 : IntKind.i64.wrap (((m + 1 : Nat) : Int) - 1) = (m : Int) := by rw [IntKind.wrap_i64]; omega
  have hw2 : IntKind.i64.wrap ((m : Int) + 1 - 1) = (m : Int) := by rw [IntKind.wrap_i64]; omega
  clear hK hpos hm hgc hgm
  go_enter Tryz.func87, Tryz.ntmps87
  go_wp2
  go_quiet (fail)
  go_wp2
  refine bodyPost_ret (v := .bool (decide (k < t))) (by simp [results, Tryz.results87, go_sem]) rfl ?_
  exact ⟨rfl, below_drewNt w _⟩
theorem versionsAt_any (B b o tb : Nat) (htb : tb < 32) (kv vv : Value) (ks : List Int) (f : Int -> Value × Value) (x : Int) (w : World) (hbl : b < w.heap.size) (c0 : w.cell? ⟨b, o + 1 + tb * 2, none⟩ = some kv) (c1 : w.cell? ⟨b, o + 1 + tb * 2 + 1, none⟩ = some vv) (hK : w.ownsRow B 3 1 kv ks.length (ks.map (Value.int .i64))) (hV : w.ownsRow B 155 2 vv ks.length (ks.flatMap (fun y => [(f y).1, (f y).2]))) (hs : ks.Pairwise (· < ·)) (hn : ks.length <= 1048576) (hf : ∀ y, ¬ y ∈ ks -> f y = (.slice none 0 0, .slice none 0 0)) (hff : ∀ y, (∃ a n c, (f y).1 = .slice a n c) /\ ∃ a n c, (f y).2 = .slice a n c) :
 Calls Tryz.prog 64 #[.pointer (some ⟨b, o, none⟩), .agg #[.int .i64 (tb : Int), .int .i64 x]] w fun e w' => e = .returned (.agg #[(f x).1, (f x).2]) /\ Below w.heap.size w w' := by
 have hti : (tb : Int) < 32 := by omega
 obtain ⟨⟨a1, n1, q1, e1⟩, a2, n2, q2, e2⟩ := hff x
 have HU : Hid (∀ (W : World), Below w.heap.size w W -> Calls Tryz.prog 81 #[.pointer (some ⟨b, o + 1 + tb * 2, none⟩), .int .i64 x] W fun e w' => e = .returned (.agg #[.slice a1 n1 q1, .slice a2 n2 q2]) /\ Below W.heap.size W w') := hid (fun (W : World) (hB : Below w.heap.size w W) => by
  have h := under_any B b (o + 1 + tb * 2) kv vv ks f x W (Nat.lt_of_lt_of_le hbl hB.size) ((hB.cell (p := ⟨b, o + 1 + tb * 2, none⟩) hbl).trans c0) ((hB.cell (p := ⟨b, o + 1 + tb * 2 + 1, none⟩) hbl).trans c1) (own_below hK hB) (own_below hV hB) hs hn hf hff
  rw [e1, e2] at h
  exact h)
 rw [e1, e2]
 have hz : (w.alloc (.cells #[.int .i64 (tb : Int), .int .i64 x] 113)).heap.size = w.heap.size + 1 := by simp
 have K0 : Blk ((w.alloc (.cells #[.int .i64 (tb : Int), .int .i64 x] 113)).alloc (.cells #[.slice none 0 0, .slice none 0 0] 155)) w.heap.size [.int .i64 (tb : Int), .int .i64 x] := (blk_new w [.int .i64 (tb : Int), .int .i64 x] 113).below (below_alloc _ _) (by simp)
 have K1 : Blk ((w.alloc (.cells #[.int .i64 (tb : Int), .int .i64 x] 113)).alloc (.cells #[.slice none 0 0, .slice none 0 0] 155)) (w.heap.size + 1) [.slice none 0 0, .slice none 0 0] := by
  have := blk_new (w.alloc (.cells #[.int .i64 (tb : Int), .int .i64 x] 113)) [.slice none 0 0, .slice none 0 0] 155
  rw [hz] at this
  exact this
 have l0 : w.heap.size < ((w.alloc (.cells #[.int .i64 (tb : Int), .int .i64 x] 113)).alloc (.cells #[.slice none 0 0, .slice none 0 0] 155)).heap.size := by simp; omega
 have l1 : w.heap.size + 1 < ((w.alloc (.cells #[.int .i64 (tb : Int), .int .i64 x] 113)).alloc (.cells #[.slice none 0 0, .slice none 0 0] 155)).heap.size := by simp
 have HK0 : Hid (Blk ((w.alloc (.cells #[.int .i64 (tb : Int), .int .i64 x] 113)).alloc (.cells #[.slice none 0 0, .slice none 0 0] 155)).drew w.heap.size [.int .i64 (tb : Int), .int .i64 x]) := hid (K0.below (Below.refl _ _).drew l0)
 have HK1 : Hid (Blk ((w.alloc (.cells #[.int .i64 (tb : Int), .int .i64 x] 113)).alloc (.cells #[.slice none 0 0, .slice none 0 0] 155)).drew (w.heap.size + 1) [.slice none 0 0, .slice none 0 0]) := hid (K1.below (Below.refl _ _).drew l1)
 have HL0 : Hid (w.heap.size < ((w.alloc (.cells #[.int .i64 (tb : Int), .int .i64 x] 113)).alloc (.cells #[.slice none 0 0, .slice none 0 0] 155)).drew.heap.size) := (l0 : w.heap.size < ((w.alloc (.cells #[.int .i64 (tb : Int), .int .i64 x] 113)).alloc (.cells #[.slice none 0 0, .slice none 0 0] 155)).heap.size)
 have HL1 : Hid (w.heap.size + 1 < ((w.alloc (.cells #[.int .i64 (tb : Int), .int .i64 x] 113)).alloc (.cells #[.slice none 0 0, .slice none 0 0] 155)).drew.heap.size) := (l1 : w.heap.size + 1 < ((w.alloc (.cells #[.int .i64 (tb : Int), .int .i64 x] 113)).alloc (.cells #[.slice none 0 0, .slice none 0 0] 155)).heap.size)
 obtain ⟨z0, z1⟩ := kc1 K0
 have hbw : Below w.heap.size w ((w.alloc (.cells #[.int .i64 (tb : Int), .int .i64 x] 113)).alloc (.cells #[.slice none 0 0, .slice none 0 0] 155)) := (below_alloc w _).trans ((below_alloc _ _).mono (by simp))
 clear K0 K1 hz e1 e2 l0 l1
 clear hK hV hs hn hf hff c0 c1
 go_enter Tryz.func64, Tryz.ntmps64
 go_wp2
 go_region_held (fun W => W.cell? ⟨w.heap.size, 0, none⟩ = some (.int .i64 (tb : Int)) /\ W.cell? ⟨w.heap.size, 1, none⟩ = some (.int .i64 x)) (go_keep) (first
  | (go_at_call 81
     with_reducible refine (HU.out _ hbw.drew).mono ?_
     rintro e W2 ⟨rfl, hb2⟩
     have KK0 := HK0.out.below hb2 HL0.out
     have KK1 := HK1.out.below hb2 HL1.out
     obtain ⟨t0, t1⟩ := kc1 KK0
     obtain ⟨⟨r0, s0⟩, ⟨r1, s1⟩⟩ := kb1 KK1
     have b2 : Below w.heap.size w W2 := hbw.drew.trans (hb2.mono (Nat.le_of_lt HL0.out))
     have HB2 := hid b2
     clear hb2 KK0 KK1 b2))
 go_wp2
 refine bodyPost_ret (v := .agg #[.slice a1 n1 q1, .slice a2 n2 q2]) (by simp [results, Tryz.results64, go_sem, r0, r1, s0, s1]) rfl ?_
 refine ⟨rfl, ?_⟩
 have b2 := HB2.out
 exact bl
theorem seen_own (b o g mb tb : Nat) (x bg : Int) (v : Vsn) (M : List (Spt × Vsn)) (w : World) (hgl : g < w.heap.size) (c0 : w.cell? ⟨g, 0, none⟩ = some (.int .i64 bg)) (c1 : w.cell? ⟨g, 34, none⟩ = some (.map (some mb))) (hM : MP w mb M) (hg : mget M ((tb : Int), x) = some v) :
 Calls Tryz.prog 44 #[.pointer (some ⟨b, o, none⟩), .pointer (some ⟨g, 0, none⟩), .agg #[.int .i64 (tb : Int), .int .i64 x]] w fun e w' => e = .returned (.agg #[.int .i64 v.1, .bool v.2]) /\ Below w.heap.size w w' := by
 have hz : (w.alloc (.cells #[.int .i64 (tb : Int), .int .i64 x] 113)).heap.size = w.heap.size + 1 := by simp
 have hbw : Below w.heap.size w ((w.alloc (.cells #[.int .i64 (tb : Int), .int .i64 x] 113)).alloc (.cells #[.int .i64 0, .bool false] 121)) := (below_alloc w _).trans ((below_alloc _ _).mono (by simp))
 have K0 : Blk ((w.alloc (.cells #[.int .i64 (tb : Int), .int .i64 x] 113)).alloc (.cells #[.int .i64 0, .bool false] 121)) w.heap.size [.int .i64 (tb : Int), .int .i64 x] := (blk_new w [.int .i64 (tb : Int), .int .i64 x] 113).below (below_alloc _ _) (by simp)
 obtain ⟨z0, z1⟩ := kc1 K0
 have z2 : ((w.alloc (.cells #[.int .i64 (tb : Int), .int .i64 x] 113)).alloc (.cells #[.int .i64 0, .bool false] 121)).cell? ⟨g, 34, none⟩ = some (.map (some mb)) := (hbw.cell (p := ⟨g, 34, none⟩) hgl).trans c1
 have HM0 : Hid (MP ((w.alloc (.cells #[.int .i64 (tb : Int), .int .i64 x] 113)).alloc (.cells #[.int .i64 0, .bool false] 121)).drew mb M) := hid (hM.fr (Fr.of_below (fun _ => False) hbw.drew) (fun z => z))
 clear K0 hz
 go_enter Tryz.func44, Tryz.ntmps44
 go_wp2
 refine wp_region_till_drew (S := (fun W => W.cell? ⟨g, 34, none⟩ = some (.map (some mb)) /\ W.cell? ⟨w.heap.size, 0, none⟩ = some (.int .i64 (tb : Int)) /\ W.cell? ⟨w.heap.size, 1, none⟩ = some (.int .i64 x) /\ MP W mb M)) (late := [10, 11]) (by kernel_rfl) ⟨z2, z0, z1, HM0.out⟩ (fun hHeld => ?_)
 refine tT 0 rfl hHeld ?_
 try simp only [Act.put, q1, q2, q3]
 refine tT 1 rfl hHeld ?_
 try simp only [Act.put, q1, q2, q3]
 refine tT 2 rfl hHeld ?_
 try simp only [Act.put, q1, q2, q3]
 refine till_ld (i := 3) (v := ?_) rfl (Or.inl ⟨by rfl, ?_⟩) hHeld ?_
 rotate_left
 .intro w hSw
  try dsimp only at hSw
  go_simp
  try with_reducible rfl
 try simp only [Act.put, q1, q2, q3]
 refine till_ld (i := 4) (v := ?_) rfl (Or.inl ⟨by rfl, ?_⟩) hHeld ?_
 rotate_left
 .intro w hSw
  try dsimp only at hSw
  go_simp
  try with_reducible rfl
 try simp only [Act.put, q1, q2, q3]
 refine till_ld (i := 5) (v := ?_) rfl (Or.inl ⟨by rfl, ?_⟩) hHeld ?_
 rotate_left
 .intro W hSw
  have hl := run_look W mb M hSw.2.2.2 (tb, x)
  rw [hg] at hl
  simp only [sptV, vsnV, Option.getD_some, Option.isSome_some] at hl
  simp [execOp, go_sem, hl]
  try with_reducible rfl
 try simp only [Act.put, q1, q2, q3]
 refine tT 6 rfl hHeld ?_
 try simp only [Act.put, q1, q2, q3]
 refine tT 7 rfl hHeld ?_
 try simp only [Act.put, q1, q2, q3]
 refine tT 8 rfl hHeld ?_
 try simp only [Act.put, q1, q2, q3]
 refine till_ready (rs := [9]) (by kernel_rfl) (by simp) ?_
 refine TillAll.cons rfl (fun K hK => ?_) TillAll.nil
 go_simp
 refine hK _ _ ⟨⟨by go_keep, by go_keep, by go_keep, HM0.out.fr (Fr.of_below (fun _ => False) (below_alloc _ _)) (fun z => z)⟩, ?_⟩
 clear hK K
 try simp only [Act.put, q1, q2, q3]
 refine rL 10 rfl fun K hK => ?_
 go_simp
 refine hK _ _ ?_
 clear hK K
 try simp only [Act.put, q1, q2, q3]
 refine rL 11 rfl fun K hK => ?_
 go_simp
 refine hK _ _ ?_
 clear hK K
 try simp only [Act.put, q1, q2, q3]
 refine till_done (by kernel_rfl) ?_ _
 go_wp2
 refine bodyPost_ret (v := .agg #[.int .i64 v.1, .bool v.2]) (by simp [results, Tryz.results44, go_sem]) rfl ?_
 refine ⟨rfl, ?_⟩
 exact bl
theorem seen_past (b o g mb tb : Nat) (x bg : Int) (M : List (Spt × Vsn)) (w : World) (hgl : g < w.heap.size) (c0 : w.cell? ⟨g, 0, none⟩ = some (.int .i64 bg)) (c1 : w.cell? ⟨g, 34, none⟩ = some (.map (some mb))) (hM : MP w mb M) (hg : mget M ((tb : Int), x) = none) (htb : tb < 32) (B : Nat) (kv vv : Value) (ks : List Int) (f : Int -> Value × Value) (vs : List Ver) (hbl : b < w.heap.size) (d0 : w.cell? ⟨b, o + 1 + tb * 2, none⟩ = some kv) (d1 : w.cell? ⟨b, o + 1 + tb * 2 + 1, none⟩ = some vv) (hK : w.ownsRow B 3 1 kv ks.length (ks.map (Value.int .i64))) (hV : w.ownsRow B 155 2 vv ks.length (ks.flatMap (fun y => [(f y).1, (f y).2]))) (hs : ks.Pairwise (· < ·)) (hn : ks.length <= 1048576) (hf : ∀ y, ¬ y ∈ ks -> f y = (.slice none 0 0, .slice none 0 0)) (hff : ∀ y, (∃ a n c, (f y).1 = .slice a n c) /\ ∃ a n c, (f y).2 = .slice a n c) (hK2 : w.ownsRow B 3 1 (f x).1 vs.length ((vs.map (·.1)).map (Value.int .i64))) (hV2 : w.ownsRow B 121 2 (f x).2 vs.length (vs.flatMap verV)) (hs2 : (vs.map (·.1)).Pairwise (· < ·)) (hn2 : vs.length <= 1048576) :
 Calls Tryz.prog 44 #[.pointer (some ⟨b, o, none⟩), .pointer (some ⟨g, 0, none⟩), .agg #[.int .i64 (tb : Int), .int .i64 x]] w fun e w' => e = .returned (.agg #[.int .i64 (verAt vs bg).1, .bool (verAt vs bg).2]) /\ Below w.heap.size w w' := by
 have hz : (w.alloc (.cells #[.int .i64 (tb : Int), .int .i64 x] 113)).heap.size = w.heap.size + 1 := by simp
 have hbw : Below w.heap.size w ((w.alloc (.cells #[.int .i64 (tb : Int), .int .i64 x] 113)).alloc (.cells #[.int .i64 0, .bool false] 121)) := (below_alloc w _).trans ((below_alloc _ _).mono (by simp))
 have K0 : Blk ((w.alloc (.cells #[.int .i64 (tb : Int), .int .i64 x] 113)).alloc (.cells #[.int .i64 0, .bool false] 121)) w.heap.size [.int .i64 (tb : Int), .int .i64 x] := (blk_new w [.int .i64 (tb : Int), .int .i64 x] 113).below (below_alloc _ _) (by simp)
 obtain ⟨z0, z1⟩ := kc1 K0
 have z2 : ((w.alloc (.cells #[.int .i64 (tb : Int), .int .i64 x] 113)).alloc (.cells #[.int .i64 0, .bool false] 121)).cell? ⟨g, 34, none⟩ = some (.map (some mb)) := (hbw.cell (p := ⟨g, 34, none⟩) hgl).trans c1
 have HM0 : Hid (MP ((w.alloc (.cells #[.int .i64 (tb : Int), .int .i64 x] 113)).alloc (.cells #[.int .i64 0, .bool false] 121)).drew mb M) := hid (hM.fr (Fr.of_below (fun _ => False) hbw.drew) (fun z => z))
 obtain ⟨⟨a1, n1, q1, e1⟩, a2, n2, q2, e2⟩ := hff x
 have HU : Hid (∀ (W : World), Below w.heap.size w W -> Calls Tryz.prog 64 #[.pointer (some ⟨b, o, none⟩), .agg #[.int .i64 (tb : Int), .int .i64 x]] W fun e w' => e = .returned (.agg #[.slice a1 n1 q1, .slice a2 n2 q2]) /\ Below W.heap.size W w') := hid (fun (W : World) (hB : Below w.heap.size w W) => by
  have h := versionsAt_any B b o tb htb kv vv ks f x W (Nat.lt_of_lt_of_le hbl hB.size) ((hB.cell (p := ⟨b, o + 1 + tb * 2, none⟩) hbl).trans d0) ((hB.cell (p := ⟨b, o + 1 + tb * 2 + 1, none⟩) hbl).trans d1) (own_below hK hB) (own_below hV hB) hs hn hf hff
  rw [e1, e2] at h
  exact h)
 rw [e1] at hK2
 rw [e2] at hV2
 have HUP := hid (fun (W : World) (r : Nat) (hr : r < W.heap.size) (g0 : W.cell? ⟨r, 0, none⟩ = some (.slice a1 n1 q1)) (g1 : W.cell? ⟨r, 0 + 1, none⟩ = some (.slice a2 n2 q2)) (hB : Below w.heap.size w W) => upTo_any B r 0 (.slice a1 n1 q1) (.slice a2 n2 q2) vs bg W hr g0 g1 (own_below hK2 hB) (own_below hV2 hB) hs2 hn2)
 generalize verAt vs bg = v at HUP ⊢
 have HK1 : Hid (Blk ((((w.alloc (.cells #[.int .i64 (tb : Int), .int .i64 x] 113)).alloc (.cells #[.int .i64 0, .bool false] 121)).alloc (.cells #[.int .i64 0, .bool false] 121)).drew) (w.heap.size + 1) [.int .i64 0, .bool false]) := by
  have h := blk_new (w.alloc (.cells #[.int .i64 (tb : Int), .int .i64 x] 113)) [.int .i64 0, .bool false] 121
  rw [hz] at h
  exact hid ((h.below (below_alloc _ _) (by simp)).below (Below.refl _ _).drew (by simp))
 have HL1 : Hid (w.heap.size + 1 < ((((w.alloc (.cells #[.int .i64 (tb : Int), .int .i64 x] 113)).alloc (.cells #[.int .i64 0, .bool false] 121)).alloc (.cells #[.int .i64 0, .bool false] 121)).drew).heap.size) := hid (by show w.heap.size + 1 < (((w.alloc (.cells #[.int .i64 (tb : Int), .int .i64 x] 113)).alloc (.cells #[.int .i64 0, .bool false] 121)).alloc _).heap.size; simp)
 have hbx : Below w.heap.size w ((((w.alloc (.cells #[.int .i64 (tb : Int), .int .i64 x] 113)).alloc (.cells #[.int .i64 0, .bool false] 121)).alloc (.cells #[.int .i64 0, .bool false] 121)).drew) := (hbw.trans ((below_alloc _ _).mono (by simp; omega))).drew
 have HBX := hid hbx
 clear hbx hK hV hs hn hf hff hK2 hV2 hs2 hn2 e1 e2 d0 d1
 clear K0 hz
 go_enter Tryz.func44, Tryz.ntmps44
 go_wp2
 refine wp_region_till_drew (S := (fun W => W.cell? ⟨g, 34, none⟩ = some (.map (some mb)) /\ W.cell? ⟨w.heap.size, 0, none⟩ = some (.int .i64 (tb : Int)) /\ W.cell? ⟨w.heap.size, 1, none⟩ = some (.int .i64 x) /\ MP W mb M)) (late := [10, 11]) (by kernel_rfl) ⟨z2, z0, z1, HM0.out⟩ (fun hHeld => ?_)
 refine tT 0 rfl hHeld ?_
 try simp only [Act.put, q1, q2, q3]
 refine tT 1 rfl hHeld ?_
 try simp only [Act.put, q1, q2, q3]
 refine tT 2 rfl hHeld ?_
 try simp only [Act.put, q1, q2, q3]
 refine till_ld (i := 3) (v := ?_) rfl (Or.inl ⟨by rfl, ?_⟩) hHeld ?_
 rotate_left
 .intro w hSw
  try dsimp only at hSw
  go_simp
  try with_reducible rfl
 try simp only [Act.put, q1, q2, q3]
 refine till_ld (i := 4) (v := ?_) rfl (Or.inl ⟨by rfl, ?_⟩) hHeld ?_
 rotate_left
 .intro w hSw
  try dsimp only at hSw
  go_simp
  try with_reducible rfl
 try simp only [Act.put, q1, q2, q3]
 refine till_ld (i := 5) (v := ?_) rfl (Or.inl ⟨by rfl, ?_⟩) hHeld ?_
 rotate_left
 .intro W hSw
  have hl := run_look W mb M hSw.2.2.2 (tb, x)
  rw [hg] at hl
  simp only [sptV, vsnV, Option.getD_none, Option.isSome_none] at hl
  simp [execOp, go_sem, hl]
  try with_reducible rfl
 try simp only [Act.put, q1, q2, q3]
 refine tT 6 rfl hHeld ?_
 try simp only [Act.put, q1, q2, q3]
 refine tT 7 rfl hHeld ?_
 try simp only [Act.put, q1, q2, q3]
 refine tT 8 rfl hHeld ?_
 try simp only [Act.put, q1, q2, q3]
 refine till_ready (rs := [9]) (by kernel_rfl) (by simp) ?_
 refine TillAll.cons rfl (fun K hK => ?_) TillAll.nil
 go_simp
 refine hK _ _ ⟨⟨by go_keep, by go_keep, by go_keep, HM0.out.fr (Fr.of_below (fun _ => False) (below_alloc _ _)) (fun z => z)⟩, ?_⟩
 clear hK K
 try simp only [Act.put, q1, q2, q3]
 refine rL 10 rfl fun K hK => ?_
 go_simp
 refine hK _ _ ?_
 clear hK K
 try simp only [Act.put, q1, q2, q3]
 refine rL 11 rfl fun K hK => ?_
 go_simp
 refine hK _ _ ?_
 clear hK K
 try simp only [Act.put, q1, q2, q3]
 refine till_done (by kernel_rfl) ?_ _
 go_wp2_with (go_at_call 64; fail)
 refine (HU.out _ HBX.out).mono ?_
 rintro e W2 ⟨rfl, hb2⟩
 have KK1 := HK1.out.below hb2 HL1.out
 obtain ⟨⟨r0, s0⟩, ⟨r1, s1⟩⟩ := kb1 KK1
 have b2 : Below w.heap.size w W2 := HBX.out.trans (hb2.mono (Nat.le_of_lt (Nat.lt_of_succ_lt HL1.out)))
 have t0 : W2.cell? ⟨g, 0, none⟩ = some (.int .i64 bg) := ct b2 hgl c0
 have hl2 : w.heap.size + 1 < W2.heap.size := Nat.lt_of_lt_of_le HL1.out hb2.size
 have HKK := hid KK1
 have HB2 := hid b2
 have hgl2 : g < W2.heap.size := by omega
 have hng : ¬ W2.heap.size = g := by omega
 have hng2 : ¬ g = W2.heap.size := by omega
 clear hb2 KK1 HU HBX b2
 go_wp2_with (go_at_call 65; fail)
 refine (HUP.out _ _ (by simp) (by simp) (by simp) (HB2.out.trans ((below_alloc _ _).mono (by omega)))).mono ?_
 rintro e W3 ⟨rfl, hb3⟩
 have KK3 := (HKK.out.below (below_alloc W2 (.cells #[.slice a1 n1 q1, .slice a2 n2 q2] 155)) hl2).below hb3 (by simp; omega)
 obtain ⟨⟨r3, s3⟩, ⟨r4, s4⟩⟩ := kb1 KK3
 have b3 : Below w.heap.size w W3 := (HB2.out.trans ((below_alloc _ _).mono (by omega))).trans (hb3.mono (by simp; omega))
 have HB3 := hid b3
 clear hb3 KK3 b3
 go_wp2
 refine bodyPost_ret (v := .agg #[.int .i64 v.1, .bool v.2]) (by simp [results, Tryz.results44, go_sem, r3, r4, s3, s4]) rfl ?_
 refine ⟨rfl, ?_⟩
 have b3 := HB3.out
 exact bl
def noMarks : List Bool := List.replicate 32 false
def tranC (cl md : Int) (rd : List Bool) (mb : Nat) (sv : Value) : List Value := [.int .i64 cl, .int .i64 md] ++ rd.map Value.bool ++ [.map (some mb), sv]
theorem tranC_new (cl md : Int) (w : World) : tranC cl md noMarks w.heap.size (.slice none 0 0) = [.int .i64 cl, .int .i64 md, .bool false, .bool false, .bool false, .bool false, .bool false, .bool false, .bool false, .bool false, .bool false, .bool false, .bool false, .bool false, .bool false, .bool false, .bool false, .bool false, .bool false, .bool false, .bool false, .bool false, .bool false, .bool false, .bool false, .bool false, .bool false, .bool false, .bool false, .bool false, .bool false, .bool false, .bool false, .bool false, .map (some w.heap.size), .slice none 0 0] := rfl
theorem newTran_any (b o : Nat) (cl md : Int) (w : World) (hbl : b < w.heap.size) (c0 : w.cell? ⟨b, o, none⟩ = some (.int .i64 cl)) :
 Calls Tryz.prog 43 #[.pointer (some ⟨b, o, none⟩), .int .i64 md] w fun e w' => e = .returned (.pointer (some ⟨w.heap.size + 1, 0, none⟩)) /\ Blk w' (w.heap.size + 1) (tranC cl md noMarks w.heap.size (.slice none 0 0)) /\ MP w' w.heap.size [] /\ Below w.heap.size w w' /\ w'.heap.size = w.heap.size + 2 := by
 have hz : (w.alloc (.map #[] 0)).heap.size = w.heap.size + 1 := by simp
 have HX : Hid (Blk ((w.alloc (.map #[] 0)).alloc (.cells #[.int .i64 cl, .int .i64 md, .bool false, .bool false, .bool false, .bool false, .bool false, .bool false, .bool false, .bool false, .bool false, .bool false, .bool false, .bool false, .bool false, .bool false, .bool false, .bool false, .bool false, .bool false, .bool false, .bool false, .bool false, .bool false, .bool false, .bool false, .bool false, .bool false, .bool false, .bool false, .bool false, .bool false, .bool false, .bool false, .map (some w.heap.size), .slice none 0 0] 119)) (w.heap.size + 1) (tranC cl md noMarks w.heap.size (.slice none 0 0)) /\ MP ((w.alloc (.map #[] 0)).alloc (.cells #[.int .i64 cl, .int .i64 md, .bool false, .bool false, .bool false, .bool false, .bool false, .bool false, .bool false, .bool false, .bool false, .bool false, .bool false, .bool false, .bool false, .bool false, .bool false, .bool false, .bool false, .bool false, .bool false, .bool false, .bool false, .bool false, .bool false, .bool false, .bool false, .bool false, .bool false, .bool false, .bool false, .bool false, .bool false, .bool false, .map (some w.heap.size), .slice none 0 0] 119)) w.heap.size [] /\ Below w.heap.size w ((w.alloc (.map #[] 0)).alloc (.cells #[.int .i64 cl, .int .i64 md, .bool false, .bool false, .bool false, .bool false, .bool false, .bool false, .bool false, .bool false, .bool false, .bool false, .bool false, .bool false, .bool false, .bool false, .bool false, .bool false, .bool false, .bool false, .bool false, .bool false, .bool false, .bool false, .bool false, .bool false, .bool false, .bool false, .bool false, .bool false, .bool false, .bool false, .bool false, .bool false, .map (some w.heap.size), .slice none 0 0] 119)) /\ ((w.alloc (.map #[] 0)).alloc (.cells #[.int .i64 cl, .int .i64 md, .bool false, .bool false, .bool false, .bool false, .bool false, .bool false, .bool false, .bool false, .bool false, .bool false, .bool false, .bool false, .bool false, .bool false, .bool false, .bool false, .bool false, .bool false, .bool false, .bool false, .bool false, .bool false, .bool false, .bool false, .bool false, .bool false, .bool false, .bool false, .bool false, .bool false, .bool false, .bool false, .map (some w.heap.size), .slice none 0 0] 119)).heap.size = w.heap.size + 2) := hid (by
  have h1 := blk_new (w.alloc (.map #[] 0)) [.int .i64 cl, .int .i64 md, .bool false, .bool false, .bool false, .bool false, .bool false, .bool false, .bool false, .bool false, .bool false, .bool false, .bool false, .bool false, .bool false, .bool false, .bool false, .bool false, .bool false, .bool false, .bool false, .bool false, .bool false, .bool false, .bool false, .bool false, .bool false, .bool false, .bool false, .bool false, .bool false, .bool false, .bool false, .bool false, .map (some w.heap.size), .slice none 0 0] 119
  rw [hz] at h1
  refine ⟨by rw [tranC_new]; exact h1, ?_, ?_, ?_⟩
  .exact (mp_new w).fr (Fr.of_below (fun _ => False) (below_alloc _ _)) (fun z => z)
  .exact (below_alloc w _).trans ((below_alloc _ _).mono (by simp))
  .rw [show ∀ (W : World) (ob : Obj), (W.alloc ob).heap.size = W.heap.size + 1 from fun W ob => by simp, hz])
 have hmk := @run_makeMap Tryz.prog
 clear hz
 go_enter Tryz.func43, Tryz.ntmps43
 go_wp2
 refine bodyPost_ret (v := .pointer (some ⟨w.heap.size + 1, 0, none⟩)) (by simp [results, Tryz.results43, go_sem]) rfl ?_
 exact ⟨rfl, HX.out⟩
def faultC (k se tb md : Int) (nil : Bool) : Int :=
 if ¬ (1 <= k /\ k <= 10) \/ ¬ (1 <= se /\ se <= 4) then 1 else if (decide (k = 1)) ≠ nil then 22 else if (2 <= k /\ k <= 5) /\ ¬ (0 <= tb /\ tb <= 31) then 6 else if k = 1 /\ md ≠ 1 /\ md ≠ 2 then 1 else 0
theorem fault_in (b n : Nat) (k tb md ky vl : Int) (nm : Value) (pt : Option Addr) (w : World) (hbl : b < w.heap.size) (hk1 : 1 <= k) (hk2 : k <= 10) (hn1 : 1 <= n) (hn2 : n <= 4) (c0 : w.cell? ⟨b, 66 + n, none⟩ = some (.pointer pt)) :
 Calls Tryz.prog 42 #[.pointer (some ⟨b, 0, none⟩), .agg #[.int .i64 k, .int .i64 (n : Int), .int .i64 tb, .int .i64 ky, .int .i64 vl, .int .i64 md, nm]] w fun e w' => e = .returned (.int .i64 (faultC k n tb md pt.isNone)) /\ Below w.heap.size w w' := by
 have hi1 : (1 : Int) <= (n : Int) := by omega
 have hi2 : (n : Int) <= 4 := by omega
 have hi3 : (n : Int) < 5 := by omega
 have hi4 : (0 : Int) <= (n : Int) := by omega
 have hnb : ¬ w.heap.size = b := by omega
 have hnb2 : ¬ b = w.heap.size := by omega
 have hkc : k = 1 \/ (2 <= k /\ ¬ k = 1 /\ (k == 1) = false) := by
  rcases Int.lt_or_le k 2 with z | z
  .exact .inl (by omega)
  .exact .inr ⟨z, by omega, beq_eq_false_iff_ne.2 (by omega)⟩
 rcases hkc with rfl | ⟨hk3, hk4, hk5⟩ <;> cases pt
 all_goals
  go_enter Tryz.func42, Tryz.ntmps42
  go_wp2
  go_quiet (fail)
  go_wp2
 all_goals first | (refine bodyPost_ret (v := .int .i64 0) (by simp [results, Tryz.results42, go_sem]) rfl ?_; (refine ⟨congrArg (fun z => Ending.returned (Value.int .i64 z)) ?_, below_drewN (below_alloc w _) _⟩; unfold faultC; (repeat' split) <;> first | rfl | omega | (simp at *; omega) | (simp_all; done) | (simp_all; omega))) | (refine bodyPost_ret (v := .int .i64 1) (by simp [results, Tryz.results42, go_sem]) rfl ?_; (refine ⟨congrArg (fun z => Ending.returned (Value.int .i64 z)) ?_, below_drewN (below_alloc w _) _⟩; unfold faultC; (repeat' split) <;> first | rfl | omega | (simp at *; omega) | (simp_all; done) | (simp_all; omega))) | (refine bodyPost_ret (v := .int .i64 6) (by simp [results, Tryz.results42, go_sem]) rfl ?_; (refine ⟨congrArg (fun z => Ending.returned (Value.int .i64 z)) ?_, below_drewN (below_alloc w _) _⟩; unfold faultC; (repeat' split) <;> first | rfl | omega | (simp at *; omega) | (simp_all; done) | (simp_all; omega))) | (refine bodyPost_ret (v := .int .i64 22) (by simp [results, Tryz.results42, go_sem]) rfl ?_; (refine ⟨congrArg (fun z => Ending.returned (Value.int .i64 z)) ?_, below_drewN (below_alloc w _) _⟩; unfold faultC; (repeat' split) <;> first | rfl | omega | (simp at *; omega) | (simp_all; done) | (simp_all; omega)))
theorem fault_out (b : Nat) (k se tb md ky vl : Int) (nm : Value) (nil : Bool) (w : World) (hout : (k < 1 \/ 10 < k) \/ (1 <= k /\ k <= 10 /\ (se < 1 \/ 4 < se))) :
 Calls Tryz.prog 42 #[.pointer (some ⟨b, 0, none⟩), .agg #[.int .i64 k, .int .i64 se, .int .i64 tb, .int .i64 ky, .int .i64 vl, .int .i64 md, nm]] w fun e w' => e = .returned (.int .i64 (faultC k se tb md nil)) /\ Below w.heap.size w w' := by
 have e1 : faultC k se tb md nil = 1 := by unfold faultC; rw [if_pos (by omega)]
 rw [e1]
 clear e1
 rcases hout with (h | h) | ⟨h1, h2, h | h⟩
 .have n1 : ¬ 1 <= k := by omega
  go_enter Tryz.func42, Tryz.ntmps42
  go_wp2
  all_goals (refine bodyPost_ret (v := .int .i64 1) (by simp [results, Tryz.results42, go_sem]) rfl ⟨rfl, bl⟩)
 .have n1 : ¬ k <= 10 := by omega
  have n2 : 1 <= k := by omega
  go_enter Tryz.func42, Tryz.ntmps42
  go_wp2
  all_goals (refine bodyPost_ret (v := .int .i64 1) (by simp [results, Tryz.results42, go_sem]) rfl ⟨rfl, bl⟩)
 .have n1 : ¬ 1 <= se := by omega
  go_enter Tryz.func42, Tryz.ntmps42
  go_wp2
  all_goals (refine bodyPost_ret (v := .int .i64 1) (by simp [results, Tryz.results42, go_sem]) rfl ⟨rfl, bl⟩)
 .have n1 : ¬ se <= 4 := by omega
  have n2 : 1 <= se := by omega
  go_enter Tryz.func42, Tryz.ntmps42
  go_wp2
  all_goals (refine bodyPost_ret (v := .int .i64 1) (by simp [results, Tryz.results42, go_sem]) rfl ⟨rfl, bl⟩)
def setLs : List Value -> Nat -> List Value -> List Value
 | xs, _, [] => xs
 | xs, o, v :: r => setLs (xs.set o v) (o + 1) r
theorem setLs_all : ∀ (vs pre rest : List Value), vs.length = rest.length -> setLs (pre ++ rest) pre.length vs = pre ++ vs
 | [], pre, rest, h => by
   have : rest = [] := List.length_eq_zero_iff.1 h.symm
   subst this
   rfl
 | v :: r, pre, [], h => by simp at h
 | v :: r, pre, y :: ys, h => by
   have := setLs_all r (pre ++ [v]) ys (by simpa using h)
   unfold setLs
   rw [List.set_append_right _ _ (Nat.le_refl _), Nat.sub_self, List.set_cons_zero]
   rw [List.append_assoc, List.length_append] at this
   rw [List.append_assoc] at this
   exact this
theorem own_setCells {B e K n g c : Nat} : ∀ (vs : List Value) (o : Nat) (w : World) (xs : List Value), w.ownsRow B e K (.slice (some ⟨g, 0, none⟩) n c) n xs -> (w.setCells g o vs).ownsRow B e K (.slice (some ⟨g, 0, none⟩) n c) n (setLs xs o vs)
 | [], _, _, _, h => h
 | v :: r, o, w, xs, h => own_setCells r (o + 1) (w.setCell ⟨g, o, none⟩ v) (xs.set o v) (own_setJ h o v)
theorem fr_setCells (g : Nat) : ∀ (vs : List Value) (o : Nat) (w : World), Fr (fun q => q = g) w (w.setCells g o vs)
 | [], _, w => Fr.refl _ w
 | v :: r, o, w => (Fr.setCell w g o v).trans (fr_setCells g r (o + 1) _)
theorem own_cut {B e K n n' g c : Nat} {w : World} {xs : List Value} (h : w.ownsRow B e K (.slice (some ⟨g, 0, none⟩) n c) n xs) (hn : n' <= n) : w.ownsRow B e K (.slice (some ⟨g, 0, none⟩) n' c) n' (xs.take (n' * K)) := by
 obtain ⟨h1, h2⟩ := h
 have hle : n' * K <= n * K := Nat.mul_le_mul_right K hn
 refine ⟨by rw [List.length_take, h1]; omega, ?_⟩
 rcases h2 with ⟨h2, _⟩ | ⟨g', cap, cur, h2, h3, h4, h5, h6, h7, h8⟩
 .cases h2
 .injection h2 with h2 _ hc
  injection h2 with h2
  injection h2 with h2 _ _
  subst h2 hc
  refine .inr ⟨g, c, cur, rfl, h3, h4, by omega, h6, h7, ?_⟩
  rw [<- h8, List.take_take, Nat.min_eq_left hle]
theorem del_int (B : Nat) (v : Value) (xs : List Int) (i : Nat) (w : World) (hrow : w.ownsRow B 3 1 v xs.length (xs.map (Value.int .i64))) (hi : i < xs.length) (hn : xs.length <= 1048576) :
 Calls Tryz.prog 86 #[v, .int .i64 (i : Int), .int .i64 ((i : Int) + 1)] w fun en w' => ∃ a c, en = .returned (.slice a (xs.length - 1) c) /\ w'.ownsRow B 3 1 (.slice a (xs.length - 1) c) (xs.length - 1) ((xs.take i ++ xs.drop (i + 1)).map (Value.int .i64)) /\ (Value.slice a (xs.length - 1) c).ownBlock = v.ownBlock /\ Fr (fun g => v.ownBlock = some g) w w' := by
 obtain ⟨g, c, hv, hgc, hgm, hgl⟩ := own_shape hrow (by omega)
 have hm : c <= 9223372036854775807 := by have : maxLen <= 9223372036854775807 := (by decide); omega
 have hd := Tryz.slices_Delete_int_cells g 0 xs.length c i (i + 1) xs w (Nat.le_refl _) hgc hm (by omega) (by omega) (fun j hj => by
  rw [Nat.zero_add]
  exact own_cells hrow hv (by rw [List.getElem?_map, List.getElem?_eq_getElem hj, Option.map_some, List.getD_eq_getElem?_getD, List.getElem?_eq_getElem hj]; rfl)) (fun j hj => by rw [Nat.zero_add]; exact own_unfro hrow hv j)
 rw [show ((i + 1 : Nat) : Int) = (i : Int) + 1 from rfl] at hd
 rw [hv]
 refine hd.mono ?_
 rintro en w' ⟨rfl, q, rfl⟩
 have hsub : xs.length - (i + 1 - i) = xs.length - 1 := by omega
 rw [hsub]
 have hL : (((xs.take xs.length).take i ++ (xs.take xs.length).drop (i + 1) ++ List.replicate (i + 1 - i) 0).map (Value.int .i64)) = (xs.take i ++ xs.drop (i + 1)).map (Value.int .i64) ++ [.int .i64 0] := by
  rw [List.take_length, show i + 1 - i = 1 by omega]; simp
 rw [hL]
 have hlen : (xs.take i ++ xs.drop (i + 1)).length = xs.length - 1 := by rw [List.length_append, List.length_take, List.length_drop]; omega
 have b1 := below_drewNt w q
 have h1 := own_below hrow b1
 rw [hv] at h1
 have h2 := own_setCells ((xs.take i ++ xs.drop (i + 1)).map (Value.int .i64) ++ [.int .i64 0]) 0 (w.drewN q) _ h1
 have h3 := setLs_all ((xs.take i ++ xs.drop (i + 1)).map (Value.int .i64) ++ [.int .i64 0]) [] (xs.map (Value.int .i64)) (by rw [List.length_append, List.length_map, hlen, List.length_map, List.length_singleton]; omega)
 rw [List.nil_append, List.nil_append, List.length_nil] at h3
 rw [h3] at h2
 have h4 := own_cut h2 (n' := xs.length - 1) (by omega)
 rw [Nat.mul_one, List.take_append_of_le_length (by rw [List.length_map, hlen]; exact Nat.le_refl _), List.take_of_length_le (l := (xs.take i ++ xs.drop (i + 1)).map (Value.int .i64)) (by rw [List.length_map, hlen]; exact Nat.le_refl _)] at h4
 refine ⟨_, _, rfl, h4, rfl, ?_⟩
 exact (Fr.of_below _ b1).trans ((fr_setCells g _ 0 _).mono (fun z hz => by rw [hz]; rfl))
def dropKs (ks : List Int) (x : Int) : List Int := if ks.contains x then ks.take (posN ks x) ++ ks.drop (posN ks x + 1) else ks
def dropVs (ks us : List Int) (x : Int) : List Int := if ks.contains x then us.take (posN ks x) ++ us.drop (posN ks x + 1) else us
theorem drop_end {B b o : Nat} {w W3 : World} {cs : List Value} {kv vv k' v' : Value} {ks' : List Int} {ys : List Value} (hb : Blk W3 b cs) (hkr : W3.ownsRow B 3 1 k' ks'.length (ks'.map (Value.int .i64))) (hvr : W3.ownsRow B 3 1 v' ks'.length ys) (hk' : k'.ownBlock = kv.ownBlock) (hv' : v'.ownBlock = vv.ownBlock) (hkb : kv.ownBlock ≠ some b) (hvb : vv.ownBlock ≠ some b) (hkv : ∀ g, kv.ownBlock = some g -> vv.ownBlock ≠ some g) (ho1 : o + 1 < cs.length) (hf : Fr (fun g => g = b \/ kv.ownBlock = some g \/ vv.ownBlock = some g) w W3) (r : Value) :
 PutP B b o 3 1 w cs kv vv ks' ys (.returned r) ((W3.setCell ⟨b, o, none⟩ k').setCell ⟨b, o + 1, none⟩ v') := by
 have f1 := Fr.setCell W3 b o k'
 have f2 := Fr.setCell (W3.setCell ⟨b, o, none⟩ k') b (o + 1) v'
 have n1 : ∀ g, k'.ownBlock = some g -> g ≠ b := fun g hg e => hkb (by rw [<- hk', hg, e])
 have n2 : ∀ g, v'.ownBlock = some g -> g ≠ b := fun g hg e => hvb (by rw [<- hv', hg, e])
 refine ⟨k', v', r, rfl, (hb.set o k' (by omega)).set (o + 1) v' (by simpa using ho1), own_fr (own_fr hkr f1 n1) f2 n1, own_fr (own_fr hvr f1 n2) f2 n2, (hf.trans (f1.mono (fun g z => .inl z))).trans (f2.mono (fun g z => .inl z)), fun g hg => .inl (by rw [<- hk']; exact hg), fun g hg => .inl (by rw [<- hv']; exact hg), fun g hg => ?_⟩
 rw [hk'] at hg
 rw [hv']
 exact hkv g hg
theorem drop_int_there (B b o : Nat) (cs : List Value) (kv vv : Value) (ks us : List Int) (x : Int) (w : World) (hb : Blk w b cs) (hbl : b < w.heap.size) (hk : cs[o]? = some kv) (hv : cs[o + 1]? = some vv) (hK : w.ownsRow B 3 1 kv ks.length (ks.map (Value.int .i64))) (hV : w.ownsRow B 3 1 vv ks.length (us.map (Value.int .i64))) (hs : ks.Pairwise (· < ·)) (hn : ks.length < 1048576) (hkb : kv.ownBlock ≠ some b) (hvb : vv.ownBlock ≠ some b) (hkv : ∀ g, kv.ownBlock = some g -> vv.ownBlock ≠ some g) (hx : ks.contains x = true) :
 Calls Tryz.prog 69 #[.pointer (some ⟨b, o, none⟩), .int .i64 x] w fun en w' => PutP B b o 3 1 w cs kv vv (dropKs ks x) ((dropVs ks us x).map (Value.int .i64)) en w' := by
 have hol : o < cs.length := (List.getElem?_eq_some_iff.1 hk).1
 have ho1 : o + 1 < cs.length := (List.getElem?_eq_some_iff.1 hv).1
 have c0 : w.cell? ⟨b, o, none⟩ = some kv := (hb o hol).1.trans hk
 have c1 : w.cell? ⟨b, o + 1, none⟩ = some vv := (hb (o + 1) ho1).1.trans hv
 have hbin := bin_any B kv ks x w hK hs (by omega)
 have hmx : x ∈ ks := List.contains_iff_mem.1 hx
 have hp := posN_lt hs hmx
 have hul : us.length = ks.length := by have := hV.1; rw [List.length_map, Nat.mul_one] at this; exact this
 have eK : dropKs ks x = ks.take (posN ks x) ++ ks.drop (posN ks x + 1) := by unfold dropKs; rw [if_pos hx]
 have eV : dropVs ks us x = us.take (posN ks x) ++ us.drop (posN ks x + 1) := by unfold dropVs; rw [if_pos hx]
 rw [eK, eV]
 clear eK eV
 obtain ⟨ka, kc, hkf⟩ := formR hK
 obtain ⟨va, vc, hvf⟩ := formR hV
 obtain ⟨p, hpp⟩ : ∃ p, p = posN ks x := ⟨_, rfl⟩
 rw [<- hpp] at hbin hp ⊢
 rw [hx] at hbin
 subst hkf hvf
 have hlen : (ks.take p ++ ks.drop (p + 1)).length = ks.length - 1 := by rw [List.length_append, List.length_take, List.length_drop]; omega
 have HK := hid hK
 have HV : Hid (w.ownsRow B 3 1 (.slice va ks.length vc) us.length (us.map (Value.int .i64))) := hid (by rw [hul]; exact hV)
 have HKV := hid hkv
 have HKB := hid hkb
 have HVB := hid hvb
 have HLEN := hid hlen
 have HUL := hid hul
 have HNS : Hid (¬ ((Value.slice ka ks.length kc).ownBlock = some b \/ (Value.slice va ks.length vc).ownBlock = some b)) := hid (fun z => by rcases z with z | z; exact hkb z; exact hvb z)
 have hpu : p < us.length := by omega
 have hnn : ks.length <= 1048576 := by omega
 have hnu : us.length <= 1048576 := by omega
 have HB := hid hb
 have hpw : IntKind.i64.wrap ((p : Int) + 1) = (p : Int) + 1 := by rw [IntKind.wrap_i64]; omega
 clear hpp hK hV hb hs hmx hx hul hlen hkv hkb hvb
 go_enter Tryz.func69, Tryz.ntmps69
 go_wp2_with (go_at_call 82; fail)
 refine hbin.mono ?_
 rintro e w1 ⟨rfl, q, hq⟩
 have b1 : Below w.heap.size w w1 := by rw [hq]; exact below_drewNt w q
 have d0 : w1.cell? ⟨b, o, none⟩ = some (.slice ka ks.length kc) := ct b1 hbl c0
 have d1 : w1.cell? ⟨b, o + 1, none⟩ = some (.slice va ks.length vc) := ct b1 hbl c1
 have hb1 : b < w1.heap.size := Nat.lt_of_lt_of_le hbl b1.size
 clear hq hbin c0 c1
 go_wp2
 refine wp_region_till_drew (S := (fun W => W.cell? ⟨b, o, none⟩ = some (.slice ka ks.length kc) /\ W.cell? ⟨b, o + 1, none⟩ = some (.slice va ks.length vc))) (late := [18, 19, 20, 21, 22, 23]) (by kernel_rfl) (by go_keep) (fun hHeld => ?_)
 refine tT 0 rfl hHeld ?_
 try simp only [Act.put, q1, q2, q3]
 refine tT 1 rfl hHeld ?_
 try simp only [Act.put, q1, q2, q3]
 refine tT 2 rfl hHeld ?_
 try simp only [Act.put, q1, q2, q3]
 refine tT 3 rfl hHeld ?_
 try simp only [Act.put, q1, q2, q3]
 refine tT 4 rfl hHeld ?_
 try simp only [Act.put, q1, q2, q3]
 refine till_ld (i := 5) (v := ?_) rfl (Or.inl ⟨by rfl, ?_⟩) hHeld ?_
 rotate_left
 .intro w hSw
  try dsimp only at hSw
  go_simp
  try with_reducible rfl
 try simp only [Act.put, q1, q2, q3]
 refine tT 6 rfl hHeld ?_
 try simp only [Act.put, q1, q2, q3]
 refine tT 7 rfl hHeld ?_
 try simp only [Act.put, q1, q2, q3]
 refine tT 8 rfl hHeld ?_
 try simp only [Act.put, q1, q2, q3]
 refine tT 10 rfl hHeld ?_
 try simp only [Act.put, q1, q2, q3]
 refine tT 11 rfl hHeld ?_
 try simp only [Act.put, q1, q2, q3]
 refine tT 12 rfl hHeld ?_
 try simp only [Act.put, q1, q2, q3]
 refine till_ld (i := 13) (v := ?_) rfl (Or.inl ⟨by rfl, ?_⟩) hHeld ?_
 rotate_left
 .intro w hSw
  try dsimp only at hSw
  go_simp
  try with_reducible rfl
 try simp only [Act.put, q1, q2, q3]
 refine tT 14 rfl hHeld ?_
 try simp only [Act.put, q1, q2, q3]
 refine tT 15 rfl hHeld ?_
 try simp only [Act.put, q1, q2, q3]
 refine tT 16 rfl hHeld ?_
 try simp only [Act.put, q1, q2, q3]
 refine till_ready (rs := [9]) (by kernel_rfl) (by simp) ?_
 refine TillAll.cons rfl (fun K hK => ?_) TillAll.nil
 go_simp
 go_wp2_with
  (go_at_call 86
   with_reducible refine (del_int B _ ks p w1.drew (own_below HK.out b1.drew) hp hnn).mono ?_
   rintro e W2 ⟨a2, c2, rfl, hr2, hn2, hf2⟩
   have KR := hid hr2
   have KN := hid hn2
   have KF := hid ((Fr.of_below _ b1.drew).trans (hf2.mono (T := fun g => (Value.slice ka ks.length kc).ownBlock = some g \/ (Value.slice va ks.length vc).ownBlock = some g) (fun g z => .inl z)))
   have KB2 := HB.out.fr KF.out hbl HNS.out
   have HV2 := hid (own_fr (own_below HV.out b1.drew) hf2 (fun g z1 z2 => HKV.out g z2 z1))
   have j0 : W2.cell? ⟨b, o, none⟩ = some (.slice ka ks.length kc) := (KB2 o hol).1.trans hk
   have j1 : W2.cell? ⟨b, o + 1, none⟩ = some (.slice va ks.length vc) := (KB2 (o + 1) ho1).1.trans hv
   clear hr2 hn2 hf2 KB2)
 refine ⟨?_, ?_⟩
 .go_keep
 try simp only [Act.put, q1, q2, q3]
 refine till_ready (rs := [17]) (by kernel_rfl) (by simp) ?_
 refine TillAll.cons rfl (fun K hK => ?_) TillAll.nil
 go_simp
 go_wp2_with
  (go_at_call 86
   with_reducible refine (del_int B _ us p W2 HV2.out hpu hnu).mono ?_
   rintro e W3 ⟨a3, c3, rfl, hr3, hn3, hf3⟩
   have KR3 := hid (own_fr KR.out hf3 (fun g z1 z2 => HKV.out g (by rw [<- KN.out]; exact z1) z2))
   have VR3 := hid hr3
   have VN := hid hn3
   have VF := hid (KF.out.trans (hf3.mono (fun g z => .inr z)))
   have KB3 := hid (HB.out.fr VF.out hbl HNS.out)
   have m0 : W3.cell? ⟨b, o, none⟩ = some (.slice ka ks.length kc) := (KB3.out o hol).1.trans hk
   have m1 : W3.cell? ⟨b, o + 1, none⟩ = some (.slice va ks.length vc) := (KB3.out (o + 1) ho1).1.trans hv
   have n0 : W3.frozen? ⟨b, o, none⟩ = false := (KB3.out o hol).2
   have n1 : W3.frozen? ⟨b, o + 1, none⟩ = false := (KB3.out (o + 1) ho1).2
   clear hr3 hn3 hf3)
 refine ⟨?_, ?_⟩
 .go_keep
 try simp only [Act.put, q1, q2, q3]
 refine rL 18 rfl fun K hK => ?_
 go_simp
 refine hK _ _ ?_
 clear hK K
 try simp only [Act.put, q1, q2, q3]
 refine rL 19 rfl fun K hK => ?_
 go_simp
 refine hK _ _ ?_
 clear hK K
 try simp only [Act.put, q1, q2, q3]
 refine rL 20 rfl fun K hK => ?_
 go_simp
 refine hK _ _ ?_
 clear hK K
 try simp only [Act.put, q1, q2, q3]
 refine rL 21 rfl fun K hK => ?_
 go_simp
 refine hK _ _ ?_
 clear hK K
 try simp only [Act.put, q1, q2, q3]
 refine rL 22 rfl fun K hK => ?_
 go_simp
 refine hK _ _ ?_
 clear hK K
 try simp only [Act.put, q1, q2, q3]
 refine rL 23 rfl fun K hK => ?_
 go_simp
 refine hK _ _ ?_
 clear hK K
 try simp only [Act.put, q1, q2, q3]
 refine till_done (by kernel_rfl) ?_ _
 go_wp2
 refine bodyPost_ret (results_none rfl _ _ _) rfl ?_
 refine drop_end KB3.out (by rw [HLEN.out]; exact KR3.out) (by rw [HLEN.out, <- HUL.out]; exact VR3.out) KN.out VN.out HKB.out HVB.out HKV.out ho1 (VF.out.mono (fun g z => .inr z)) _
theorem set_same {cs : List Value} {o : Nat} {v : Value} (h : cs[o]? = some v) : cs.set o v = cs := by
 obtain ⟨h1, h2⟩ := List.getElem?_eq_some_iff.1 h
 rw [<- h2]; exact List.set_getElem_self h1
theorem put_same {B b o e K : Nat} {w w1 : World} {cs : List Value} {kv vv : Value} {ks : List Int} {ys : List Value} (hb : Blk w b cs) (hbl : b < w.heap.size) (hk : cs[o]? = some kv) (hv : cs[o + 1]? = some vv) (hK : w.ownsRow B 3 1 kv ks.length (ks.map (Value.int .i64))) (hV : w.ownsRow B e K vv ks.length ys) (hkv : ∀ g, kv.ownBlock = some g -> vv.ownBlock ≠ some g) (b1 : Below w.heap.size w w1) (r : Value) : PutP B b o e K w cs kv vv ks ys (.returned r) w1 :=
 ⟨kv, vv, r, rfl, by rw [set_same hk, set_same hv]; exact hb.below b1 hbl, own_below hK b1, own_below hV b1, Fr.of_below _ b1, fun _ z => .inl z, fun _ z => .inl z, hkv⟩
theorem drop_int_no (B b o : Nat) (cs : List Value) (kv vv : Value) (ks us : List Int) (x : Int) (w : World) (hb : Blk w b cs) (hbl : b < w.heap.size) (hk : cs[o]? = some kv) (hv : cs[o + 1]? = some vv) (hK : w.ownsRow B 3 1 kv ks.length (ks.map (Value.int .i64))) (hV : w.ownsRow B 3 1 vv ks.length (us.map (Value.int .i64))) (hs : ks.Pairwise (· < ·)) (hn : ks.length < 1048576) (hkv : ∀ g, kv.ownBlock = some g -> vv.ownBlock ≠ some g) (hx : ks.contains x = false) :
 Calls Tryz.prog 69 #[.pointer (some ⟨b, o, none⟩), .int .i64 x] w fun en w' => PutP B b o 3 1 w cs kv vv (dropKs ks x) ((dropVs ks us x).map (Value.int .i64)) en w' := by
 have hol : o < cs.length := (List.getElem?_eq_some_iff.1 hk).1
 have c0 : w.cell? ⟨b, o, none⟩ = some kv := (hb o hol).1.trans hk
 have hbin := bin_any B kv ks x w hK hs (by omega)
 have eK : dropKs ks x = ks := by unfold dropKs; rw [if_neg (by rw [hx]; decide)]
 have eV : dropVs ks us x = us := by unfold dropVs; rw [if_neg (by rw [hx]; decide)]
 rw [eK, eV]
 clear eK eV
 obtain ⟨ka, kc, hkf⟩ := formR hK
 obtain ⟨p, hpp⟩ : ∃ p, p = posN ks x := ⟨_, rfl⟩
 rw [<- hpp] at hbin
 rw [hx] at hbin
 have HF := hid (fun (w1 : World) (b1 : Below w.heap.size w w1) (r : Value) => put_same hb hbl hk hv hK hV hkv b1 r)
 subst hkf
 clear hpp hK hV hb hs hx hkv hk hv
 go_enter Tryz.func69, Tryz.ntmps69
 go_wp2_with (go_at_call 82; fail)
 refine hbin.mono ?_
 rintro e w1 ⟨rfl, q, hq⟩
 have b1 : Below w.heap.size w w1 := by rw [hq]; exact below_drewNt w q
 clear hq hbin c0
 go_wp2
 refine bodyPost_ret (results_none rfl _ _ _) rfl ?_
 exact HF.out _ bl _
theorem drop_int (B b o : Nat) (cs : List Value) (kv vv : Value) (ks us : List Int) (x : Int) (w : World) (hb : Blk w b cs) (hbl : b < w.heap.size) (hk : cs[o]? = some kv) (hv : cs[o + 1]? = some vv) (hK : w.ownsRow B 3 1 kv ks.length (ks.map (Value.int .i64))) (hV : w.ownsRow B 3 1 vv ks.length (us.map (Value.int .i64))) (hs : ks.Pairwise (· < ·)) (hn : ks.length < 1048576) (hkb : kv.ownBlock ≠ some b) (hvb : vv.ownBlock ≠ some b) (hkv : ∀ g, kv.ownBlock = some g -> vv.ownBlock ≠ some g) :
 Calls Tryz.prog 69 #[.pointer (some ⟨b, o, none⟩), .int .i64 x] w fun en w' => PutP B b o 3 1 w cs kv vv (dropKs ks x) ((dropVs ks us x).map (Value.int .i64)) en w' := by
 cases hx : ks.contains x
 .exact drop_int_no B b o cs kv vv ks us x w hb hbl hk hv hK hV hs hn hkv hx
 .exact drop_int_there B b o cs kv vv ks us x w hb hbl hk hv hK hV hs hn hkb hvb hkv hx
structure TG where
 g : Nat
 mb : Nat
 M : List (Spt × Vsn)
 sv : Value
 sm : List (Nat × List (Spt × Vsn))
def trF (t : TG) (b : Nat) : Prop := b = t.g \/ b = t.mb \/ b ∈ t.sm.map Prod.fst \/ t.sv.ownBlock = some b
def svCell (s : Sav) (b : Nat) : List Value := [.string s.nm, .map (some b)]
def svC (ss : List Sav) (bs : List Nat) : List Value := (List.zipWith svCell ss bs).flatten
theorem tranC_len (cl md : Int) (rd : List Bool) (mb : Nat) (sv : Value) (hr : rd.length = 32) : (tranC cl md rd mb sv).length = 36 := by
 unfold tranC
 simp [hr]
theorem tranC_34 (cl md : Int) (rd : List Bool) (mb : Nat) (sv : Value) (hr : rd.length = 32) : (tranC cl md rd mb sv)[34]? = some (.map (some mb)) := by
 unfold tranC
 rw [List.getElem?_append_right (by simp [hr])]
 simp [hr]
theorem tranC_35 (cl md : Int) (rd : List Bool) (mb : Nat) (sv : Value) (hr : rd.length = 32) : (tranC cl md rd mb sv)[35]? = some sv := by
 unfold tranC
 rw [List.getElem?_append_right (by simp [hr])]
 simp [hr]
theorem tranC_rd (cl md : Int) (rd : List Bool) (mb : Nat) (sv : Value) {j : Nat} (hj : j < rd.length) : (tranC cl md rd mb sv)[2 + j]? = some (.bool rd[j]) := by
 unfold tranC
 rw [List.getElem?_append_left (by simp; omega), List.getElem?_append_right (by simp)]
 simp [hj]
theorem tranC_setsv (cl md : Int) (rd : List Bool) (mb : Nat) (sv sv' : Value) (hr : rd.length = 32) : (tranC cl md rd mb sv).set 35 sv' = tranC cl md rd mb sv' := by
 unfold tranC
 rw [List.set_append_right _ _ (by simp [hr])]
 simp [hr]
theorem tranC_setrd (cl md : Int) (rd : List Bool) (mb : Nat) (sv : Value) (b : Bool) {j : Nat} (hj : j < rd.length) : (tranC cl md rd mb sv).set (2 + j) (.bool b) = tranC cl md (rd.set j b) mb sv := by
 unfold tranC
 rw [List.set_append_left _ _ (by simp; omega), List.set_append_right _ _ (by simp)]
 simp [List.map_set]
structure TrM (B : Nat) (w : World) (t : TG) (x : Txn) : Prop where
 bk : Blk w t.g (tranC x.bg x.md x.rs t.mb t.sv)
 gl : t.g < w.heap.size
 rl : x.rs.length = 32
 mp : MP w t.mb t.M
 mr : RelM t.M x.own
 mi : InT t.M
 sl : t.sm.length = x.sv.length
 s8 : x.sv.length <= 8
 sr : w.ownsRow B 169 2 t.sv x.sv.length (svC x.sv (t.sm.map Prod.fst))
 ss : ∀ j (h : j < t.sm.length) (h' : j < x.sv.length), MP w t.sm[j].1 t.sm[j].2 /\ RelM t.sm[j].2 x.sv[j].cs /\ InT t.sm[j].2
 nd : (t.mb :: t.sm.map Prod.fst).Nodup
 sg : t.sv.ownBlock ≠ some t.g
 ge : ∀ b, trF t b -> B <= b
theorem blk_map {w : World} {b : Nat} {cs : List Value} {M : List (Spt × Vsn)} (h : Blk w b cs) (hl : 0 < cs.length) (hm : MP w b M) : False := by
 obtain ⟨es, cl, h1, _⟩ := hm
 have := (h 0 hl).1
 rw [List.getElem?_eq_getElem hl] at this
 simp [World.cell?, h1] at this
theorem own_map {w : World} {B e K n g : Nat} {v : Value} {xs : List Value} {M : List (Spt × Vsn)} (h : w.ownsRow B e K v n xs) (hg : v.ownBlock = some g) (hm : MP w g M) : False := by
 obtain ⟨es, cl, h1, _⟩ := hm
 rcases h.2 with ⟨h2, _⟩ | ⟨g', cap, cur, rfl, h3, h4, _⟩
 .rw [h2] at hg; simp [Value.ownBlock] at hg
 .have : g' = g := by simpa [Value.ownBlock] using hg
  subst this
  rw [h4] at h1
  cases h1
theorem TrM.lt {B : Nat} {w : World} {t : TG} {x : Txn} (h : TrM B w t x) {b : Nat} (hb : trF t b) : b < w.heap.size := by
 rcases hb with rfl | rfl | z | z
 .exact h.gl
 .exact h.mp.lt
 .obtain ⟨p, hp, rfl⟩ := List.mem_map.1 z
  obtain ⟨j, hj, rfl⟩ := List.getElem_of_mem hp
  exact (h.ss j hj (by rw [<- h.sl]; exact hj)).1.lt
 .exact (h.sr.lt b z).2
theorem TrM.g_mb {B : Nat} {w : World} {t : TG} {x : Txn} (h : TrM B w t x) : t.g ≠ t.mb := fun e => blk_map (h.bk) (by rw [tranC_len _ _ _ _ _ h.rl]; omega) (by rw [e]; exact h.mp)
theorem TrM.sm_mp {B : Nat} {w : World} {t : TG} {x : Txn} (h : TrM B w t x) {b : Nat} (hb : b ∈ t.sm.map Prod.fst) : ∃ N, MP w b N := by
 obtain ⟨p, hp, rfl⟩ := List.mem_map.1 hb
 obtain ⟨j, hj, rfl⟩ := List.getElem_of_mem hp
 exact ⟨_, (h.ss j hj (by rw [<- h.sl]; exact hj)).1⟩
theorem TrM.g_sm {B : Nat} {w : World} {t : TG} {x : Txn} (h : TrM B w t x) : ¬ t.g ∈ t.sm.map Prod.fst := fun e => by
 obtain ⟨N, hN⟩ := h.sm_mp e
 exact blk_map h.bk (by rw [tranC_len _ _ _ _ _ h.rl]; omega) hN
theorem TrM.sv_mb {B : Nat} {w : World} {t : TG} {x : Txn} (h : TrM B w t x) : t.sv.ownBlock ≠ some t.mb := fun e => own_map h.sr e h.mp
theorem TrM.sv_sm {B : Nat} {w : World} {t : TG} {x : Txn} (h : TrM B w t x) {b : Nat} (hb : t.sv.ownBlock = some b) : ¬ b ∈ t.sm.map Prod.fst := fun e => by
 obtain ⟨N, hN⟩ := h.sm_mp e
 exact own_map h.sr hb hN
theorem TrM.fr {B : Nat} {S : Nat -> Prop} {w w' : World} {t : TG} {x : Txn} (h : TrM B w t x) (hk : Fr S w w') (hS : ∀ b, trF t b -> ¬ S b) : TrM B w' t x :=
 ⟨h.bk.fr hk h.gl (hS _ (.inl rfl)), Nat.lt_of_lt_of_le h.gl hk.size, h.rl, h.mp.fr hk (hS _ (.inr (.inl rfl))), h.mr, h.mi, h.sl, h.s8, own_fr h.sr hk (fun g hg => hS g (.inr (.inr (.inr hg)))), fun j hj hj' => ⟨(h.ss j hj hj').1.fr hk (hS _ (.inr (.inr (.inl (List.mem_map_of_mem (List.getElem_mem hj)))))), (h.ss j hj hj').2⟩, h.nd, h.sg, h.ge⟩
theorem TrM.below {B : Nat} {w w' : World} {t : TG} {x : Txn} (h : TrM B w t x) (hb : Below w.heap.size w w') : TrM B w' t x := h.fr (Fr.of_below (fun _ => False) hb) (fun _ _ z => z)
theorem TrM.c0 {B : Nat} {w : World} {t : TG} {x : Txn} (h : TrM B w t x) : w.cell? ⟨t.g, 0, none⟩ = some (.int .i64 x.bg) := (h.bk 0 (by rw [tranC_len _ _ _ _ _ h.rl]; omega)).1
theorem TrM.c1 {B : Nat} {w : World} {t : TG} {x : Txn} (h : TrM B w t x) : w.cell? ⟨t.g, 1, none⟩ = some (.int .i64 x.md) := (h.bk 1 (by rw [tranC_len _ _ _ _ _ h.rl]; omega)).1
theorem TrM.c34 {B : Nat} {w : World} {t : TG} {x : Txn} (h : TrM B w t x) : w.cell? ⟨t.g, 34, none⟩ = some (.map (some t.mb)) := (h.bk 34 (by rw [tranC_len _ _ _ _ _ h.rl]; omega)).1.trans (tranC_34 _ _ _ _ _ h.rl)
theorem TrM.c35 {B : Nat} {w : World} {t : TG} {x : Txn} (h : TrM B w t x) : w.cell? ⟨t.g, 35, none⟩ = some t.sv /\ w.frozen? ⟨t.g, 35, none⟩ = false := ⟨(h.bk 35 (by rw [tranC_len _ _ _ _ _ h.rl]; omega)).1.trans (tranC_35 _ _ _ _ _ h.rl), (h.bk 35 (by rw [tranC_len _ _ _ _ _ h.rl]; omega)).2⟩
theorem TrM.rr {B : Nat} {w : World} {t : TG} {x : Txn} (h : TrM B w t x) : w.rangeAt t.g 2 (x.rs.map Value.bool) := range_blk h.bk 2 _ (fun j v hv => by
 rw [List.getElem?_map] at hv
 cases hq : x.rs[j]? with
 | none => rw [hq] at hv; cases hv
 | some b =>
   rw [hq] at hv
   obtain ⟨hj, hb⟩ := List.getElem?_eq_some_iff.1 hq
   rw [tranC_rd _ _ _ _ _ hj, hb]
   exact hv)
theorem TrM.svf {B : Nat} {w : World} {t : TG} {x : Txn} (h : TrM B w t x) : ∃ a c, t.sv = .slice a x.sv.length c := formR h.sr
theorem TrM.info {B : Nat} {w : World} {t : TG} {x : Txn} (h : TrM B w t x) (cm : Int) :
 Calls Tryz.prog 89 #[.pointer (some ⟨t.g, 0, none⟩), .int .i64 cm] w fun e w' => ∃ v2 v3, e = .returned (.agg #[.int .i64 x.bg, .int .i64 cm, v2, v3]) /\ IGr w.heap.size w' v2 (infoF x.bg cm x.own x.rs).reads /\ IGr w.heap.size w' v3 (infoF x.bg cm x.own x.rs).writes /\ (∀ a, v2.ownBlock = some a -> v3.ownBlock ≠ some a) /\ Below w.heap.size w w' := by
 refine (info_any t.g t.mb x.bg cm x.rs t.M w h.gl h.rl h.c0 h.rr h.c34 h.mp h.mi).mono ?_
 rintro e w' ⟨v2, v3, h1, h2, ⟨D, d1, d2, h3⟩, h4, h5⟩
 rw [wrote_marks h.mr h.mp.nodup d1 d2] at h3
 exact ⟨v2, v3, h1, h2, h3, h4, h5⟩
end Go.Proofs.YtblkgicbimflhaaGreat
