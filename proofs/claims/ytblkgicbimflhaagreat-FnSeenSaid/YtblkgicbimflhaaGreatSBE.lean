import Derived.Test.YtblkgicbimflhaaGreatSBD
import Derived.Test.YtblkgicbimflhaaGreatSAF
import Derived.Laws.Bits64
import Derived.Test.YtblkgicbimflhaaGreatSAG
namespace Go.Proofs.YtblkgicbimflhaaGreat
open Go.ChangeShapes Go.WideShapes Go.ChangeAt Go.RowKit
set_option linter.unusedVariables false
set_option linter.unusedSimpArgs false
set_option maxRecDepth 100000
set_option maxHeartbeats 16000000
open Go.ChangeMaps (setBlock)
theorem TrP.of_below {B : Nat} {w w' : World} {t : TG} {x : Txn} (h : TrM B w t x) (hb : Below w.heap.size w w') : TrP B w t x w' := ⟨t, h.below hb, rfl, fun b hb => .inl hb, Fr.of_below _ hb⟩
theorem TrM.remap {B : Nat} {w w' : World} {t : TG} {x : Txn} (h : TrM B w t x) (hf : Fr (fun b => b = t.mb) w w') {M' : List (Spt × Vsn)} {own' : List Cel} (hm : MP w' t.mb M') (hr : RelM M' own') (hi : InT M') : TrM B w' ⟨t.g, t.mb, M', t.sv, t.sm⟩ { x with own := own' } :=
 ⟨h.bk.fr hf h.gl (fun e => h.g_mb e), Nat.lt_of_lt_of_le h.gl hf.size, h.rl, hm, hr, hi, h.sl, h.s8, own_fr h.sr hf (fun g hg e => by have e2 : g = t.mb := e; subst e2; exact h.sv_mb hg), fun j hj hj' => ⟨(h.ss j hj hj').1.fr hf (fun e => by
  have e2 : t.sm[j].1 = t.mb := e
  exact (List.nodup_cons.1 h.nd).1 (by rw [<- e2]; exact List.mem_map_of_mem (List.getElem_mem hj))), (h.ss j hj hj').2⟩, h.nd, h.sg, h.ge⟩
def RelP (B : Nat) (w : World) (t : TG) (x : Txn) (f : Nat -> Txn) (o : Option Nat) (e : Ending) (w' : World) : Prop := match o with
 | none => e = .returned (.int .i64 23) /\ TrP B w t x w'
 | some k => e = .returned (.int .i64 0) /\ TrP B w t (f k) w'
theorem cut_foot {t : TG} {n : Nat} {sv' : Value} {M' : List (Spt × Vsn)} (ho : sv'.ownBlock = t.sv.ownBlock) {b : Nat} (hb2 : trF ⟨t.g, t.mb, M', sv', t.sm.take n⟩ b) : trF t b := by
 rcases hb2 with z | z | z | z
 .exact .inl z
 .exact .inr (.inl z)
 .obtain ⟨p, hp, e⟩ := List.mem_map.1 z
  exact .inr (.inr (.inl (by rw [<- e]; exact List.mem_map_of_mem (List.mem_of_mem_take hp))))
 .exact .inr (.inr (.inr (by rw [<- ho]; exact z)))
theorem cut_fr {w w1 w2 : World} {t : TG} {n : Nat} (hb : Below w.heap.size w w1) (hf : Fr (fun b => b = t.g \/ b ∈ (t.sm.drop n).map Prod.fst) w1 w2) : Fr (trF t) w w2 := (Fr.of_below _ hb).trans (hf.mono (fun b z => by
 rcases z with z | z
 .exact .inl z
 .obtain ⟨p, hp, e⟩ := List.mem_map.1 z
  exact .inr (.inr (.inl (by rw [<- e]; exact List.mem_map_of_mem (List.mem_of_mem_drop hp))))))
theorem cut_trp {B : Nat} {w w1 w2 : World} {t : TG} {x' : Txn} {n : Nat} {sv' : Value} (hb : Below w.heap.size w w1) (hT : TrM B w2 ⟨t.g, t.mb, t.M, sv', t.sm.take n⟩ x') (ho : sv'.ownBlock = t.sv.ownBlock) (hf : Fr (fun b => b = t.g \/ b ∈ (t.sm.drop n).map Prod.fst) w1 w2) : TrP B w t x' w2 :=
 ⟨_, hT, rfl, fun b hb2 => .inl (cut_foot ho hb2), cut_fr hb hf⟩
theorem release_any (B : Nat) (w : World) (t : TG) (x : Txn) (h : TrM B w t x) (nm : ByteArray) :
 Calls Tryz.prog 51 #[.pointer (some ⟨t.g, 0, none⟩), .string nm] w fun e w' => RelP B w t x (fun k => { x with sv := x.sv.take k }) (savedF x.sv nm) e w' := by
 have hnw := newest_any B w t x h nm
 cases hq : savedF x.sv nm with
 | none =>
   rw [hq] at hnw
   have e1 : savedI none = -1 := rfl
   rw [e1] at hnw
   have HT := hid h
   clear e1 hq h
   go_enter Tryz.func51, Tryz.ntmps51
   go_wp2_with (go_at_call 74; fail)
   refine hnw.mono ?_
   rintro e w1 ⟨rfl, hb⟩
   have HF : Hid (RelP B w t x (fun k => { x with sv := x.sv.take k }) none (.returned (.int .i64 23)) w1) := ⟨rfl, TrP.of_below HT.out hb⟩
   go_wp2
   refine bodyPost_ret (v := .int .i64 23) (by simp [results, Tryz.results51, go_sem]) rfl ?_
   exact HF.out
 | some k =>
   have hkl := lastK_lt hq
   rw [hq] at hnw
   have e1 : savedI (some k) = (k : Int) := rfl
   rw [e1] at hnw
   have hk0 : ¬ (k : Int) < 0 := by omega
   have HT := hid h
   clear e1 hq h
   go_enter Tryz.func51, Tryz.ntmps51
   go_wp2_with (go_at_call 74; fail)
   refine hnw.mono ?_
   rintro e w1 ⟨rfl, hb⟩
   have hgu := giveUpSaves_any B w1 t x (HT.out.below hb) k (by omega)
   go_wp2_with (go_at_call 75; fail)
   refine hgu.mono ?_
   rintro e w2 ⟨⟨r, rfl⟩, ⟨sv', hT, ho⟩, hf⟩
   have HF : Hid (RelP B w t x (fun k => { x with sv := x.sv.take k }) (some k) (.returned (.int .i64 0)) w2) := ⟨rfl, cut_trp hb hT ho hf⟩
   clear hgu hT hf ho
   go_wp2
   refine bodyPost_ret (v := .int .i64 0) (by simp [results, Tryz.results51, go_sem]) rfl ?_
   exact HF.out
theorem copied {M' N : List (Spt × Vsn)} {cs : List Cel} (hN : RelM N cs) (hI : InT N) (hn : (M'.map Prod.fst).Nodup) (h : ∀ k, mget M' k = (mget N k).or (mget [] k)) : RelM M' cs /\ InT M' := by
 have h2 : ∀ k, mget M' k = mget N k := fun k => by rw [h k]; cases mget N k <;> rfl
 refine ⟨fun a y => by rw [h2]; exact hN a y, fun m hm => ?_⟩
 have h3 := mget_mem hn hm
 rw [h2] at h3
 exact hI _ (mget_some h3)
theorem back_any (B : Nat) (w : World) (t : TG) (x : Txn) (h : TrM B w t x) (nm : ByteArray) :
 Calls Tryz.prog 50 #[.pointer (some ⟨t.g, 0, none⟩), .string nm] w fun e w' => RelP B w t x (fun k => { x with own := (x.sv.getD k sv0).cs, sv := x.sv.take (k + 1) }) (savedF x.sv nm) e w' := by
 have hnw := newest_any B w t x h nm
 cases hq : savedF x.sv nm with
 | none =>
   rw [hq] at hnw
   have e1 : savedI none = -1 := rfl
   rw [e1] at hnw
   have HT := hid h
   clear e1 hq h
   go_enter Tryz.func50, Tryz.ntmps50
   go_wp2_with (go_at_call 74; fail)
   refine hnw.mono ?_
   rintro e w1 ⟨rfl, hb⟩
   have HF : Hid (RelP B w t x (fun k => { x with own := (x.sv.getD k sv0).cs, sv := x.sv.take (k + 1) }) none (.returned (.int .i64 23)) w1) := ⟨rfl, TrP.of_below HT.out hb⟩
   go_wp2
   refine bodyPost_ret (v := .int .i64 23) (by simp [results, Tryz.results50, go_sem]) rfl ?_
   exact HF.out
 | some k =>
   have hkl := lastK_lt hq
   rw [hq] at hnw
   have e1 : savedI (some k) = (k : Int) := rfl
   rw [e1] at hnw
   have hk0 : ¬ (k : Int) < 0 := by omega
   have hk8 : k < 8 := by have := h.s8; omega
   have hw1 : IntKind.i64.wrap ((k : Int) + 1) = (k : Int) + 1 := by simp only [IntKind.wrap_i64, wrap64]; omega
   have HT := hid h
   clear e1 hq h
   go_enter Tryz.func50, Tryz.ntmps50
   go_wp2_with (go_at_call 74; fail)
   refine hnw.mono ?_
   rintro e w1 ⟨rfl, hb⟩
   have hgu := giveUpSaves_any B w1 t x (HT.out.below hb) (k + 1) (by omega)
   rw [show ((k + 1 : Nat) : Int) = (k : Int) + 1 by omega] at hgu
   go_wp2_with (go_at_call 75; fail)
   refine hgu.mono ?_
   rintro e w2 ⟨⟨r, rfl⟩, ⟨sv', hT, ho⟩, hf⟩
   have c34 := hT.c34
   have c35 := hT.c35.1
   simp only at c34 c35
   have hlk : (x.sv.take (k + 1)).length = k + 1 := by rw [List.length_take]; omega
   have hlm : (t.sm.take (k + 1)).length = k + 1 := by have := hT.sl; simp only at this; rw [this, hlk]
   have hks : k < t.sm.length := by rw [List.length_take] at hlm; omega
   obtain ⟨gs, cap, hsv, hcc, _, hgs⟩ := own_shape hT.sr (by simp only; omega)
   simp only at hsv
   rw [hlk] at hsv
   obtain ⟨k1, k2⟩ := svC_at (x.sv.take (k + 1)) ((t.sm.take (k + 1)).map Prod.fst) k (by omega) (by rw [List.length_map]; omega)
   simp only [List.getElem_map, List.getElem_take] at k1 k2
   have d1 : w2.cell? ⟨gs, k * 2 + 1, none⟩ = some (.map (some t.sm[k].1)) := own_cells hT.sr (by simp only; rw [hlk]; exact hsv) k2
   obtain ⟨q1, q2, q3⟩ := hT.ss k (by simp only; omega) (by simp only; omega)
   simp only [List.getElem_take] at q1 q2 q3
   have hgd : x.sv.getD k sv0 = x.sv[k] := by rw [List.getD_eq_getElem?_getD, List.getElem?_eq_getElem hkl]; rfl
   obtain ⟨pk, hpk⟩ : ∃ z, z = t.sm[k]'hks := ⟨_, rfl⟩
   have q2' : RelM pk.2 (x.sv.getD k sv0).cs := by rw [hgd, hpk]; exact q2
   have q3' : InT pk.2 := by rw [hpk]; exact q3
   have q1b : MP w2 pk.1 pk.2 := by rw [hpk]; exact q1
   have hne : t.mb ≠ pk.1 := fun e => (List.nodup_cons.1 HT.out.nd).1 (by rw [e, hpk]; exact List.mem_map_of_mem (List.getElem_mem hks))
   have d1b : w2.cell? ⟨gs, k * 2 + 1, none⟩ = some (.map (some pk.1)) := by rw [hpk]; exact d1
   clear q1 q2 q3 d1 hpk hgd
   obtain ⟨mk, Nk⟩ := pk
   simp only at q1b q2' q3' hne d1b
   have hgm : t.g ≠ t.mb := HT.out.g_mb
   have hgsm : gs ≠ t.mb := fun e => own_map hT.sr (g := gs) (by simp only; rw [hsv]; rfl) (by rw [e]; exact hT.mp)
   rw [hsv] at c35
   obtain ⟨o, hcl, hmp⟩ := run_clearM w2 t.mb 0 _ hT.mp
   have f3 := fr_setBlock w2 t.mb o
   have b34 := (World.cell?_of_block (a := ⟨t.g, 34, none⟩) (f3.block t.g hT.gl hgm)).trans c34
   have b35 := (World.cell?_of_block (a := ⟨t.g, 35, none⟩) (f3.block t.g hT.gl hgm)).trans c35
   have bd1 := (World.cell?_of_block (a := ⟨gs, k * 2 + 1, none⟩) (f3.block gs hgs hgsm)).trans d1b
   have q1' : MP (setBlock w2 t.mb o) mk Nk := q1b.fr f3 (fun (e : mk = t.mb) => hne e.symm)
   have HCP := hid (copy_any t.mb mk [] Nk (setBlock w2 t.mb o).drew hmp q1' hne)
   have HB := hid hb
   have HT2 := hid hT
   have HF2 := hid hf
   have HF3 := hid f3
   have HQ2 := hid q2'
   have HQ3 := hid q3'
   have HO := hid ho
   have hki : (k : Int) < k + 1 := by omega
   clear hgu hT hf f3 q1' q1b q2' q3' ho k1 k2 hmp hlk hlm d1b hsv hb hks
   go_wp2
   refine wp_region_till_drew (S := (fun W => W.cell? ⟨t.g, 34, none⟩ = some (.map (some t.mb)) /\ W.cell? ⟨t.g, 35, none⟩ = some (.slice (some ⟨gs, 0, none⟩) (k + 1) cap) /\ W.cell? ⟨gs, k * 2 + 1, none⟩ = some (.map (some mk)))) (late := []) (by kernel_rfl) ⟨b34, b35, bd1⟩ (fun hHeld => ?_)
   refine tT 0 rfl hHeld ?_
   try simp only [Act.put, q1, q2, q3]
   refine tT 1 rfl hHeld ?_
   try simp only [Act.put, q1, q2, q3]
   refine tT 2 rfl hHeld ?_
   try simp only [Act.put, q1, q2, q3]
   refine till_ld (i := 3) (v := ?_) rfl (Or.inl ⟨by rfl, ?_⟩) hHeld ?_
   rotate_left
   .intro w hSw
    try dsimp only at hSw
    go_simp
    try with_reducible rfl
   try simp only [Act.put, q1, q2, q3]
   refine tT 4 rfl hHeld ?_
   try simp only [Act.put, q1, q2, q3]
   refine tT 5 rfl hHeld ?_
   try simp only [Act.put, q1, q2, q3]
   refine tT 6 rfl hHeld ?_
   try simp only [Act.put, q1, q2, q3]
   refine till_ld (i := 7) (v := ?_) rfl (Or.inl ⟨by rfl, ?_⟩) hHeld ?_
   rotate_left
   .intro w hSw
    try dsimp only at hSw
    go_simp
    try with_reducible rfl
   try simp only [Act.put, q1, q2, q3]
   refine tT 8 rfl hHeld ?_
   try simp only [Act.put, q1, q2, q3]
   refine tT 9 rfl hHeld ?_
   try simp only [Act.put, q1, q2, q3]
   refine tT 10 rfl hHeld ?_
   try simp only [Act.put, q1, q2, q3]
   refine till_ld (i := 11) (v := ?_) rfl (Or.inl ⟨by rfl, ?_⟩) hHeld ?_
   rotate_left
   .intro w hSw
    try dsimp only at hSw
    go_simp
    try with_reducible rfl
   try simp only [Act.put, q1, q2, q3]
   refine rE 12 rfl fun K hK => ?_
   go_simp
   refine HCP.out.mono ?_
   rintro e w4 ⟨⟨r2, rfl⟩, ⟨M', hM', hmg⟩, hf4⟩
   have hf5 : Fr (fun b => b = t.mb) (setBlock w2 t.mb o) w4 := ⟨hf4.os, hf4.tape, hf4.output, hf4.size, hf4.block⟩
   have hz2 : t.g < (setBlock w2 t.mb o).heap.size := Nat.lt_of_lt_of_le HT2.out.gl HF3.out.size
   have hz3 : gs < (setBlock w2 t.mb o).heap.size := Nat.lt_of_lt_of_le hgs HF3.out.size
   have g34 := (World.cell?_of_block (a := ⟨t.g, 34, none⟩) (hf5.block t.g hz2 hgm)).trans b34
   have g35 := (World.cell?_of_block (a := ⟨t.g, 35, none⟩) (hf5.block t.g hz2 hgm)).trans b35
   have gd1 := (World.cell?_of_block (a := ⟨gs, k * 2 + 1, none⟩) (hf5.block gs hz3 hgsm)).trans bd1
   have HF : Hid (RelP B w t x (fun k => { x with own := (x.sv.getD k sv0).cs, sv := x.sv.take (k + 1) }) (some k) (.returned (.int .i64 0)) w4) := hid (by
    obtain ⟨c1, c2⟩ := copied HQ2.out HQ3.out hM'.nodup hmg
    have fx := HF3.out.trans hf5
    exact ⟨rfl, _, HT2.out.remap fx hM' c1 c2, rfl, fun b hb2 => .inl (cut_foot HO.out hb2), (cut_fr HB.out HF2.out).trans (fx.mono (fun b z => .inr (.inl z)))⟩)
   clear hM' hmg hf4 hf5 HCP HT2 HF2 HF3 HQ2 HQ3
   refine hK _ _ ⟨⟨g34, g35, gd1⟩, ?_⟩
   clear hK K
   try simp only [Act.put, q1, q2, q3]
   refine till_done (by kernel_rfl) ?_ _
   go_wp2
   refine bodyPost_ret (v := .int .i64 0) (by simp [results, Tryz.results50, go_sem]) rfl ?_
   exact HF.out
end Go.Proofs.YtblkgicbimflhaaGreat
namespace Go.Proofs.YtblkgicbimflhaaGreat
open Go.ChangeShapes Go.WideShapes Go.ChangeAt Go.RowKit
set_option linter.unusedVariables false
set_option linter.unusedSimpArgs false
set_option maxRecDepth 100000
set_option maxHeartbeats 16000000
theorem toNat_u64 (a : Nat) (ha : a < 18446744073709551616) : (BitVec.ofInt 64 (a : Int)).toNat = a := by
 rw [BitVec.ofInt_natCast, BitVec.toNat_ofNat]; exact Nat.mod_eq_of_lt (by omega)
theorem bits_or_nat (a b : Nat) (ha : a < 18446744073709551616) (hb : b < 18446744073709551616) : bits .or .u64 (a : Int) (b : Int) = ((a ||| b : Nat) : Int) := by
 have hx : a ||| b < 2 ^ 64 := Nat.or_lt_two_pow (by omega) (by omega)
 show IntKind.u64.wrap ((BitVec.ofInt 64 (a : Int) ||| BitVec.ofInt 64 (b : Int)).toNat : Int) = _
 rw [BitVec.toNat_or, toNat_u64 a ha, toNat_u64 b hb, IntKind.wrap_u64]
 omega
theorem bits_and_nat (a b : Nat) (ha : a < 18446744073709551616) (hb : b < 18446744073709551616) : bits .and .u64 (a : Int) (b : Int) = ((a &&& b : Nat) : Int) := by
 have hx : a &&& b < 2 ^ 64 := Nat.and_lt_two_pow _ (by omega)
 show IntKind.u64.wrap ((BitVec.ofInt 64 (a : Int) &&& BitVec.ofInt 64 (b : Int)).toNat : Int) = _
 rw [BitVec.toNat_and, toNat_u64 a ha, toNat_u64 b hb, IntKind.wrap_u64]
 omega
def bitsOf (xs : List Int) : Nat := xs.foldl (fun b t => b ||| 2 ^ t.toNat) 0
theorem bitsOf_step {xs : List Int} {k : Nat} (h : k < xs.length) : bitsOf (xs.take (k + 1)) = bitsOf (xs.take k) ||| 2 ^ xs[k].toNat := by
 unfold bitsOf
 rw [show xs.take (k + 1) = xs.take k ++ [xs[k]] by rw [List.take_add_one, List.getElem?_eq_getElem h]; rfl, List.foldl_append]
 rfl
theorem fold_bit (i : Nat) : ∀ (xs : List Int) (b : Nat), ((xs.foldl (fun b t => b ||| 2 ^ t.toNat) b).testBit i = true ↔ b.testBit i = true \/ ∃ x ∈ xs, x.toNat = i)
 | [], b => by simp
 | x :: r, b => by
   rw [List.foldl_cons, fold_bit i r, Nat.testBit_or, Nat.testBit_two_pow]
   simp only [Bool.or_eq_true, decide_eq_true_eq, List.mem_cons, exists_eq_or_imp]
   exact or_assoc
theorem bitsOf_bit (xs : List Int) (i : Nat) : (bitsOf xs).testBit i = true ↔ ∃ x ∈ xs, x.toNat = i := by
 unfold bitsOf
 rw [fold_bit]
 simp
theorem fold_lt : ∀ (xs : List Int) (b : Nat), (∀ x ∈ xs, x < 32) -> b < 2 ^ 32 -> xs.foldl (fun b t => b ||| 2 ^ t.toNat) b < 2 ^ 32
 | [], b, _, h => h
 | x :: r, b, hx, h => by
   rw [List.foldl_cons]
   refine fold_lt r _ (fun y hy => hx y (List.mem_cons_of_mem _ hy)) (Nat.or_lt_two_pow h ?_)
   have := hx x List.mem_cons_self
   exact Nat.pow_lt_pow_right (by decide) (by omega)
theorem tab_of {xs : List Int} (h : ∀ j, j < xs.length -> tabAt xs j) : ∀ x ∈ xs, 0 <= x /\ x < 32 := fun x hx => by
 obtain ⟨i, hi, rfl⟩ := List.getElem_of_mem hx
 have := h i hi
 unfold tabAt at this
 rw [getD_at hi] at this
 exact ⟨this.1, this.2.1⟩
theorem bitsOf_lt {xs : List Int} (h : ∀ x ∈ xs, 0 <= x /\ x < 32) : bitsOf xs < 2 ^ 32 := fold_lt xs 0 (fun x hx => (h x hx).2) (by decide)
theorem tab_rise {xs : List Int} (h : ∀ j, j < xs.length -> tabAt xs j) : ∀ i, i < xs.length -> (i : Int) <= xs.getD i 0
 | 0, hi => (h 0 hi).1
 | i + 1, hi => by
   have h1 := tab_rise h i (by omega)
   have h2 := (h (i + 1) hi).2.2 (by omega)
   rw [show i + 1 - 1 = i from rfl] at h2
   omega
theorem tab_all {xs : List Int} (h : ∀ j, j < xs.length -> tabAt xs j) : tabP xs := ⟨by
 rcases Nat.eq_zero_or_pos xs.length with h0 | h0
 .omega
 .have h1 := tab_rise h (xs.length - 1) (by omega)
  have h2 := (h (xs.length - 1) (by omega)).2.1
  omega, h⟩
theorem bits_meet {xs ys : List Int} (hx : ∀ x ∈ xs, 0 <= x /\ x < 32) (hy : ∀ x ∈ ys, 0 <= x /\ x < 32) : bitsOf xs &&& bitsOf ys ≠ 0 ↔ meetP xs ys := by
 constructor
 .intro h
  apply Classical.byContradiction
  intro hn
  apply h
  apply Nat.eq_of_testBit_eq
  intro i
  rw [Nat.testBit_and, Nat.zero_testBit]
  apply Bool.eq_false_iff.2
  intro hb
  rw [Bool.and_eq_true, bitsOf_bit, bitsOf_bit] at hb
  obtain ⟨⟨x, x1, x2⟩, y, y1, y2⟩ := hb
  have := hx x x1
  have := hy y y1
  exact hn ⟨x, x1, by rw [show x = y by omega]; exact y1⟩
 .rintro ⟨x, h1, h2⟩ h0
  have h3 : (bitsOf xs &&& bitsOf ys).testBit x.toNat = true := by
   rw [Nat.testBit_and, Bool.and_eq_true, bitsOf_bit, bitsOf_bit]
   exact ⟨⟨x, h1, rfl⟩, x, h2, rfl⟩
  rw [h0, Nat.zero_testBit] at h3
  cases h3
theorem within_any (x a b : Int) (w : World) :
 Calls Tryz.prog 63 #[.int .i64 x, .int .i64 a, .int .i64 b] w fun e w' => e = .returned (.bool (decide (a <= x) && decide (x <= b))) /\ w' = w := by
 by_cases h1 : a <= x
 .by_cases h2 : x <= b
  .have HE : (decide (a <= x) && decide (x <= b)) = true := by simp [h1, h2]
   rw [HE]
   clear HE
   go_enter Tryz.func63, Tryz.ntmps63
   go_wp2
   go_ret
   exact ⟨rfl, rfl⟩
  .have HE : (decide (a <= x) && decide (x <= b)) = false := by simp [h2]
   rw [HE]
   clear HE
   go_enter Tryz.func63, Tryz.ntmps63
   go_wp2
   go_ret
   exact ⟨rfl, rfl⟩
 .have HE : (decide (a <= x) && decide (x <= b)) = false := by simp [h1]
  rw [HE]
  clear HE
  go_enter Tryz.func63, Tryz.ntmps63
  go_wp2
  go_ret
  exact ⟨rfl, rfl⟩
def BitsR (xs : List Int) (e : Ending) : Prop := (tabP xs /\ e = .returned (.tuple #[.int .u64 (bitsOf xs : Nat), .bool true])) \/ (¬ tabP xs /\ e = .returned (.tuple #[.int .u64 0, .bool false]))
theorem tableBits_impl (a : Option Addr) (ca : Nat) (xs : List Int) (w : World) (hn : xs.length <= 1048576) (ha : RS 1 CI 0 w (.slice a xs.length ca) xs) :
 Calls Tryz.prog 52 #[.slice a xs.length ca] w fun e w' => BitsR xs e /\ w' = w := by
 obtain ⟨a', ca', he, hva⟩ := ha
 simp only [Value.slice.injEq] at he
 obtain ⟨rfl, _, rfl⟩ := he
 go_enter Tryz.func52, Tryz.ntmps52
 go_wp2
 go_loopw [4, 9] (fun bv i wr => ∃ k : Nat, k <= xs.length /\ bv = .int .u64 ((bitsOf (xs.take k) : Nat) : Int) /\ i = .int .i64 k /\ Hid (∀ j, j < k -> tabAt xs j) /\ wr = w) (fun _ i _ => xs.length - (intOf i).toNat)
 case atStart => exact ⟨0, Nat.zero_le _, rfl, rfl, (fun x h => absurd h (Nat.not_lt_zero _) : ∀ j, j < 0 -> tabAt xs j), rfl⟩
 case round =>
  obtain ⟨k, hk, rfl, rfl, HO, hww⟩ := hrel
  replace hww := hww.symm
  subst hww
  by_cases hlt : k < xs.length
  .have hlti : (k : Int) < xs.length := by omega
   obtain ⟨g, o, rfl, _, hg, hgc⟩ := hva (by omega)
   obtain ⟨cs, hC, hcell⟩ := hgc k hlt
   unfold CI at hC
   subst hC
   have c0 : w.cell? ⟨g, o + k, none⟩ = some (.int .i64 xs[k]) := ((Below.refl _ w).cell (p := ⟨g, o + k, none⟩) hg).trans (by have := hcell 0 (by omega); rw [Nat.mul_one, Nat.add_zero] at this; exact this)
   have HST : Hid (tabAt xs k -> ∀ j, j < k + 1 -> tabAt xs j) := hid (fun z j hj => by
    by_cases e : j = k
    .subst e; exact z
    .exact HO.out j (by omega))
   have HNo : Hid (¬ tabAt xs k -> ¬ tabP xs) := hid (fun z h => z (h.2 k hlt))
   have HD := hid (getD_at hlt)
   have HBS := hid (bitsOf_step hlt)
   have hBL : bitsOf (xs.take k) < 2 ^ 32 := bitsOf_lt (fun x hx => by
    obtain ⟨i, hi, rfl⟩ := List.getElem_of_mem hx
    have hi' : i < k := by rw [List.length_take] at hi; omega
    have := HO.out i hi'
    unfold tabAt at this
    rw [getD_at (show i < xs.length by omega)] at this
    rw [List.getElem_take]
    exact ⟨this.1, this.2.1⟩)
   clear hcell HO
   generalize hx : xs[k] = x at c0 HD HBS
   clear hx
   generalize hBk : bitsOf (xs.take k) = bk at hBL HBS ⊢
   clear hBk
   by_cases h0 : 0 <= x /\ x <= 31
   .have hin : (decide (0 <= x) && decide (x <= 31)) = true := by simp [h0.1, h0.2]
    have hsh : min x.toNat 64 = x.toNat := by omega
    have hp : 2 ^ x.toNat < 2 ^ 32 := Nat.pow_lt_pow_right (by decide) (by omega)
    have HOR : Hid (bits .or .u64 (bk : Int) ((2 : Int) ^ x.toNat) = ((bk ||| 2 ^ x.toNat : Nat) : Int)) := hid (by
     have h := bits_or_nat bk (2 ^ x.toNat) (by omega) (by omega)
     rw [<- h]
     simp)
    have hx0 : ¬ x < 0 := by omega
    have hwr : IntKind.u64.wrap (2 ^ x.toNat) = ((2 ^ x.toNat : Nat) : Int) := by
     rw [IntKind.wrap_u64]
     have e2 : (2 : Int) ^ x.toNat = ((2 ^ x.toNat : Nat) : Int) := by simp
     rw [e2]
     generalize 2 ^ x.toNat = z at hp ⊢
     omega
    have hshl : ∀ W, (binOp .shl 87 (.int .u64 1) (.int .i64 x)).run Tryz.prog W = .ok (.int .u64 ((2 ^ x.toNat : Nat) : Int)) W := fun W => by
     simp [binOp, Op.shift, hx0, IntKind.bits, hsh, hwr]
    by_cases hk0 : (0 : Int) < k
    .obtain ⟨ds, hE, hcell2⟩ := hgc (k - 1) (by omega)
     unfold CI at hE
     subst hE
     have d0 : w.cell? ⟨g, o + (k - 1), none⟩ = some (.int .i64 xs[k - 1]) := ((Below.refl _ w).cell (p := ⟨g, o + (k - 1), none⟩) hg).trans (by have := hcell2 0 (by omega); rw [Nat.mul_one, Nat.add_zero] at this; exact this)
     have HE := hid (getD_at (show k - 1 < xs.length by omega))
     have hw : IntKind.i64.wrap ((k : Int) - 1) = ((k - 1 : Nat) : Int) := by simp only [IntKind.wrap_i64, wrap64]; omega
     have hk1 : ((k - 1 : Nat) : Int) < xs.length := by omega
     clear hgc hva hcell2
     generalize hy : xs[k - 1] = y at d0 HE
     clear hy
     generalize hkp : k - 1 = kp at d0 HE hw hk1
     by_cases h2 : x <= y
     .have HF := hid (HNo.out (fun h => by have := h.2.2 (by omega); rw [HD.out, hkp, HE.out] at this; omega))
      clear HST HNo HD HE hkp HBS HOR hwr hsh
      go_wp2_with (go_at_call 63; refine (within_any _ _ _ _).mono ?_; rintro e w' ⟨rfl, rfl⟩; rw [hin])
      refine bodyPost_ret (v := .tuple #[.int .u64 0, .bool false]) (by simp [results, Tryz.results52, go_sem]) rfl ⟨.inr ⟨HF.out, rfl⟩, rfl⟩
     .have HV := hid (HST.out ⟨by rw [HD.out]; omega, by rw [HD.out]; omega, fun _ => by rw [HD.out, hkp, HE.out]; omega⟩)
      clear HST HNo HD HE hkp
      go_wp2_with (go_at_call 63; refine (within_any _ _ _ _).mono ?_; rintro e w' ⟨rfl, rfl⟩; rw [hin])
      go_roundw
      case rel => exact ⟨k + 1, by omega, by rw [HBS.out, <- HOR.out], by go_num, HV, by first | exact rfl | trivial⟩
      case measure => simp [intOf]; omega
    .have HV := hid (HST.out ⟨by rw [HD.out]; omega, by rw [HD.out]; omega, fun z => by omega⟩)
     clear HST HNo HD hgc hva
     go_wp2_with (go_at_call 63; refine (within_any _ _ _ _).mono ?_; rintro e w' ⟨rfl, rfl⟩; rw [hin])
     go_roundw
     case rel => exact ⟨k + 1, by omega, by rw [HBS.out, <- HOR.out], by go_num, HV, by first | exact rfl | trivial⟩
     case measure => simp [intOf]; omega
   .have hin : (decide (0 <= x) && decide (x <= 31)) = false := by simp; omega
    have HF := hid (HNo.out (fun h => by have h1 := h.1; have h2 := h.2.1; rw [HD.out] at h1 h2; omega))
    clear hgc hva HST HNo HD HBS
    go_wp2_with (go_at_call 63; refine (within_any _ _ _ _).mono ?_; rintro e w' ⟨rfl, rfl⟩; rw [hin])
    refine bodyPost_ret (v := .tuple #[.int .u64 0, .bool false]) (by simp [results, Tryz.results52, go_sem]) rfl ⟨.inr ⟨HF.out, rfl⟩, rfl⟩
  .have hkn : k = xs.length := by omega
   subst hkn
   have hlti : ¬ (xs.length : Int) < xs.length := by omega
   have HT := hid (tab_all HO.out)
   clear HO
   go_wp2
   refine bodyPost_ret (v := .tuple #[.int .u64 ((bitsOf (xs.take xs.length) : Nat) : Int), .bool true]) (by simp [results, Tryz.results52, go_sem]) rfl ⟨.inl ⟨HT.out, by rw [List.take_length]⟩, rfl⟩
theorem concurrent_impl (b c d e : Int) (r s x y : Value) (w : World) :
 Calls Tryz.prog 77 #[.agg #[.int .i64 b, .int .i64 c, r, s], .agg #[.int .i64 d, .int .i64 e, x, y]] w fun en w' => en = .returned (.bool (decide (b < e) && decide (d < c))) /\ Below w.heap.size w w' := by
 have bw : Below w.heap.size w ((w.alloc (.cells #[.int .i64 b, .int .i64 c, r, s] 89)).alloc (.cells #[.int .i64 d, .int .i64 e, x, y] 89)) := (below_alloc w _).alloc (by simp) _
 by_cases h1 : b < e
 .by_cases h2 : d < c
  .have HE : (decide (b < e) && decide (d < c)) = true := by simp [h1, h2]
   rw [HE]
   clear HE
   go_enter Tryz.func77, Tryz.ntmps77
   go_wp2
   go_ret
   exact ⟨rfl, bw⟩
  .have HE : (decide (b < e) && decide (d < c)) = false := by simp [h2]
   rw [HE]
   clear HE
   go_enter Tryz.func77, Tryz.ntmps77
   go_wp2
   go_ret
   exact ⟨rfl, bw⟩
 .have HE : (decide (b < e) && decide (d < c)) = false := by simp [h1]
  rw [HE]
  clear HE
  go_enter Tryz.func77, Tryz.ntmps77
  go_wp2
  go_ret
  exact ⟨rfl, bw⟩
theorem leadsTo_impl (b c d e : Int) (r s x y : Nat) (w : World) (hr : r < 4294967296) (hy : y < 4294967296) :
 Calls Tryz.prog 53 #[.agg #[.int .i64 b, .int .i64 c, .int .u64 (r : Int), .int .u64 (s : Int)], .agg #[.int .i64 d, .int .i64 e, .int .u64 (x : Int), .int .u64 (y : Int)]] w fun en w' => RB (c ≠ e /\ b < e /\ d < c /\ r &&& y ≠ 0) en /\ Below w.heap.size w w' := by
 have bw : Below w.heap.size w ((w.alloc (.cells #[.int .i64 b, .int .i64 c, .int .u64 (r : Int), .int .u64 (s : Int)] 89)).alloc (.cells #[.int .i64 d, .int .i64 e, .int .u64 (x : Int), .int .u64 (y : Int)] 89)) := (below_alloc w _).alloc (by simp) _
 have KA := hid (blkA2 w [.int .i64 b, .int .i64 c, .int .u64 (r : Int), .int .u64 (s : Int)] [.int .i64 d, .int .i64 e, .int .u64 (x : Int), .int .u64 (y : Int)] 89 89)
 have KB := hid (blkD w [.int .i64 b, .int .i64 c, .int .u64 (r : Int), .int .u64 (s : Int)] [.int .i64 d, .int .i64 e, .int .u64 (x : Int), .int .u64 (y : Int)] 89 89)
 by_cases h1 : c = e
 .have hd : (c != e) = false := by simpa using h1
  have HF : Hid (¬ (c ≠ e /\ b < e /\ d < c /\ r &&& y ≠ 0)) := hid (fun h => h.1 h1)
  clear h1 KA KB
  go_enter Tryz.func53, Tryz.ntmps53
  go_wp2
  go_ret
  exact ⟨rb_f HF.out, bw⟩
 .have hd : (c != e) = true := by simpa using h1
  cases hA : (decide (b < e) && decide (d < c)) with
  | false =>
    have HF : Hid (¬ (c ≠ e /\ b < e /\ d < c /\ r &&& y ≠ 0)) := hid (fun h => by simp [h.2.1, h.2.2.1] at hA)
    clear h1 KA KB
    go_enter Tryz.func53, Tryz.ntmps53
    go_wp2_with (go_at_call 77; fail)
    refine (concurrent_impl _ _ _ _ _ _ _ _ _).mono ?_
    rintro en w1 ⟨rfl, hb1⟩
    rw [hA]
    have bw1 := bw.trans (hb1.mono bw.size)
    clear hb1
    go_wp2
    go_ret
    exact ⟨rb_f HF.out, bw1⟩
  | true =>
    have hbits := bits_and_nat r y (by omega) (by omega)
    have HP : Hid ((c ≠ e /\ b < e /\ d < c /\ r &&& y ≠ 0) ↔ r &&& y ≠ 0) := hid (by simp at hA; exact ⟨fun h => h.2.2.2, fun h => ⟨h1, hA.1, hA.2, h⟩⟩)
    generalize hz : r &&& y = z at hbits HP
    clear h1 hz
    go_enter Tryz.func53, Tryz.ntmps53
    go_wp2_with (go_at_call 77; fail)
    refine (concurrent_impl _ _ _ _ _ _ _ _ _).mono ?_
    rintro en w1 ⟨rfl, hb1⟩
    rw [hA]
    have bw1 := bw.trans (hb1.mono bw.size)
    have k2 : w1.cell? ⟨w.heap.size, 2, none⟩ = some (.int .u64 (r : Int)) := ((KA.out.below hb1 (by simp; omega)) 2 (by simp)).1
    have k3 : w1.cell? ⟨w.heap.size + 1, 3, none⟩ = some (.int .u64 (y : Int)) := ((KB.out.below hb1 (by simp)) 3 (by simp)).1
    clear hb1 KA KB
    by_cases hz : z = 0
    .subst hz
     go_wp2
     go_ret
     refine ⟨?_, bw1⟩
     first | (rw [hbits]; exact rb_f (fun h => (HP.out.1 h) rfl)) | exact rb_f (fun h => (HP.out.1 h) rfl)
    .have hzb : ((z : Int) != 0) = true := by simp; omega
     go_wp2
     go_ret
     refine ⟨?_, bw1⟩
     first | exact rb_t (HP.out.2 hz) | (rw [hbits]; simp [hz]; exact rb_t (HP.out.2 hz))
def dealV (t : TI) : List Value := [.int .i64 t.bgn, .int .i64 t.com, .int .u64 (bitsOf t.reads : Nat), .int .u64 (bitsOf t.writes : Nat)]
def CDl (B : Nat) (w : World) (cs : List Value) (t : TI) : Prop := cs = dealV t /\ tabP t.reads /\ tabP t.writes
theorem liesD : Lies 4 CDl := ⟨fun h => by rw [h.1]; rfl, fun h _ => h, fun h _ => h, fun h _ => h⟩
theorem tab_bits {xs : List Int} (h : tabP xs) : bitsOf xs < 4294967296 := bitsOf_lt (tab_of h.2)
theorem tab_meet {xs ys : List Int} (h : tabP xs) (g : tabP ys) : bitsOf xs &&& bitsOf ys ≠ 0 ↔ meetP xs ys := bits_meet (tab_of h.2) (tab_of g.2)
end Go.Proofs.YtblkgicbimflhaaGreat
