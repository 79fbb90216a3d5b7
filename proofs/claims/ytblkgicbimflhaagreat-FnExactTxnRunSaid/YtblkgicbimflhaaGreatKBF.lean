import Derived.Test.YtblkgicbimflhaaGreatKBB
import Derived.Deep.RegionWith
import Derived.Deep.RegionHeld3
namespace Go.Proofs.YtblkgicbimflhaaGreat
open Go.ChangeShapes Go.WideShapes Go.ChangeAt Go.RowKit
set_option linter.unusedVariables false
set_option linter.unusedSimpArgs false
set_option maxRecDepth 100000
open List (setIfInBounds_toArray set_cons_zero set_cons_succ)
set_option maxHeartbeats 64000000 in
theorem put_int_new (B b o : Nat) (cs : List Value) (kv vv : Value) (ks us : List Int) (x u : Int) (w : World) (hb : Blk w b cs) (hbl : b < w.heap.size) (hk : cs[o]? = some kv) (hv : cs[o + 1]? = some vv) (hK : w.ownsRow B 3 1 kv ks.length (ks.map (Value.int .i64))) (hV : w.ownsRow B 3 1 vv ks.length (us.map (Value.int .i64))) (hs : ks.Pairwise (· < ·)) (hn : ks.length < 1048576) (hkb : kv.ownBlock ≠ some b) (hvb : vv.ownBlock ≠ some b) (hkv : ∀ g, kv.ownBlock = some g → vv.ownBlock ≠ some g) (hB : B ≤ w.heap.size) (hx : ks.contains x = false) :
 Calls Tryz.prog 68 #[.pointer (some ⟨b, o, none⟩), .int .i64 x, .int .i64 u] w fun en w' => PutP B b o 3 1 w cs kv vv (putKs ks x) ((putVs ks us x u).map (Value.int .i64)) en w' := by
 have hol : o < cs.length := (List.getElem?_eq_some_iff.1 hk).1
 have ho1 : o + 1 < cs.length := (List.getElem?_eq_some_iff.1 hv).1
 have c0 : w.cell? ⟨b, o, none⟩ = some kv := (hb o hol).1.trans hk
 have c1 : w.cell? ⟨b, o + 1, none⟩ = some vv := (hb (o + 1) ho1).1.trans hv
 have hbin := bin_any B kv ks x w hK hs (by omega)
 have hpl := posN_le ks x
 obtain ⟨ka, kc, hkf⟩ := formR hK
 obtain ⟨va, vc, hvf⟩ := formR hV
 have hKL := fun g hg => (hK.lt g hg).2
 have hVL := fun g hg => (hV.lt g hg).2
 have HFIN := hid (fun (w1 Wp : World) (kv' vv' r : Value) (h1 : PSt B 3 1 ks.length (posN ks x) w1 kv vv (ks.map (Value.int .i64)) (us.map (Value.int .i64)) [.int .i64 x] [.int .i64 u] true true Wp kv' vv') (h2 : Below w.heap.size w w1) (h3 : w1.heap.size = w.heap.size) (h4 : Blk w1 b cs) => put_end_int (o := o) (ks' := putKs ks x) (zs := (putVs ks us x u).map (Value.int .i64)) h1 h2 h3 h4 hbl ho1 hkb hvb (putKs_len ks x hx) (by unfold putKs; rw [if_neg (by rw [hx]; decide)]; simp) (by unfold putVs; rw [if_neg (by rw [hx]; decide)]; simp) r)
 obtain ⟨p, hp⟩ : ∃ p, p = posN ks x := ⟨_, rfl⟩
 rw [← hp] at hbin hpl HFIN
 rw [hx] at hbin
 subst hkf hvf
 clear hp hs hx
 go_enter Tryz.func68, Tryz.ntmps68
 go_wp2_with (go_at_call 82; fail)
 refine hbin.mono ?_
 rintro e w1 ⟨rfl, q, hq⟩
 have b1 : Below w.heap.size w w1 := by rw [hq]; exact below_drewNt w q
 have hz1 : w1.heap.size = w.heap.size := by rw [hq]; rfl
 clear hq hbin
 have d0 : w1.cell? ⟨b, o, none⟩ = some (.slice ka ks.length kc) := (b1.cell (p := ⟨b, o, none⟩) hbl).trans c0
 have d1 : w1.cell? ⟨b, o + 1, none⟩ = some (.slice va ks.length vc) := (b1.cell (p := ⟨b, o + 1, none⟩) hbl).trans c1
 have HB1 := hid (hb.below b1 hbl)
 have hb1 : b < w1.heap.size := by omega
 have hBw : B ≤ w1.heap.size := by omega
 have hnn : ks.length ≤ 1048576 := by omega
 have HPS : Hid (PSt B 3 1 ks.length p w1 (.slice ka ks.length kc) (.slice va ks.length vc) (ks.map (Value.int .i64)) (us.map (Value.int .i64)) [.int .i64 x] [.int .i64 u] false false w1 (.slice ka ks.length kc) (.slice va ks.length vc)) := hid (⟨Fr.refl _ _, by simp only [Bool.false_eq_true, if_false]; exact ⟨trivial, own_below hK b1⟩, by simp only [Bool.false_eq_true, if_false]; exact ⟨trivial, own_below hV b1⟩, fun g z => .inl z, fun g z => .inl z, fun g z => by rw [hz1]; exact hKL g z, fun g z => by rw [hz1]; exact hVL g z, hkv, hkv⟩)
 have HNS : Hid (¬ ((Value.slice ka ks.length kc).ownBlock = some b ∨ (Value.slice va ks.length vc).ownBlock = some b)) := hid (fun z => by rcases z with z | z; exact hkb z; exact hvb z)
 have HFE := hid (fun (Wp : World) (kv' vv' r : Value) h1 => HFIN.out w1 Wp kv' vv' r h1 b1 hz1 HB1.out)
 have hx1 : ∀ z ∈ ks.map (Value.int .i64), z.oneCell' = true := fun z hz => by obtain ⟨y, _, rfl⟩ := List.mem_map.1 hz; rfl
 have hu1 : ∀ z ∈ us.map (Value.int .i64), z.oneCell' = true := fun z hz => by obtain ⟨y, _, rfl⟩ := List.mem_map.1 hz; rfl
 have hv1 : ∀ z ∈ [Value.int .i64 u], z.oneCell' = true := by simp [Value.oneCell']
 clear c0 c1 hK hV hb hKL hVL HFIN hkv hkb hvb b1 hz1
 go_wp2
 refine wp_region_till_drew (S := (fun W => W.cell? ⟨b, o, none⟩ = some (.slice ka ks.length kc) ∧ W.cell? ⟨b, o + 1, none⟩ = some (.slice va ks.length vc))) (late := [18, 19, 20, 21, 22, 23]) (by kernel_rfl) (by go_keep) (fun hHeld => ?_)
 refine till_tk (i := 0) (v := ?_) rfl (Or.inl ⟨by rfl, ?_⟩) hHeld ?_
 rotate_left
 ·intro w
  go_simp
  try with_reducible rfl
 try simp only [Act.put, setIfInBounds_toArray, set_cons_zero, set_cons_succ]
 refine till_tk (i := 1) (v := ?_) rfl (Or.inl ⟨by rfl, ?_⟩) hHeld ?_
 rotate_left
 ·intro w
  go_simp
  try with_reducible rfl
 try simp only [Act.put, setIfInBounds_toArray, set_cons_zero, set_cons_succ]
 refine till_tk (i := 2) (v := ?_) rfl (Or.inl ⟨by rfl, ?_⟩) hHeld ?_
 rotate_left
 ·intro w
  go_simp
  try with_reducible rfl
 try simp only [Act.put, setIfInBounds_toArray, set_cons_zero, set_cons_succ]
 refine till_tk (i := 3) (v := ?_) rfl (Or.inl ⟨by rfl, ?_⟩) hHeld ?_
 rotate_left
 ·intro w
  go_simp
  try with_reducible rfl
 try simp only [Act.put, setIfInBounds_toArray, set_cons_zero, set_cons_succ]
 refine till_tk (i := 4) (v := ?_) rfl (Or.inl ⟨by rfl, ?_⟩) hHeld ?_
 rotate_left
 ·intro w
  go_simp
  try with_reducible rfl
 try simp only [Act.put, setIfInBounds_toArray, set_cons_zero, set_cons_succ]
 refine till_ld (i := 5) (v := ?_) rfl (Or.inl ⟨by rfl, ?_⟩) hHeld ?_
 rotate_left
 ·intro w hSw
  try dsimp only at hSw
  go_simp
  try with_reducible rfl
 try simp only [Act.put, setIfInBounds_toArray, set_cons_zero, set_cons_succ]
 refine till_tk (i := 6) (v := ?_) rfl (Or.inl ⟨by rfl, ?_⟩) hHeld ?_
 rotate_left
 ·intro w
  go_simp
  try with_reducible rfl
 try simp only [Act.put, setIfInBounds_toArray, set_cons_zero, set_cons_succ]
 refine till_tk (i := 7) (v := ?_) rfl (Or.inl ⟨by rfl, ?_⟩) hHeld ?_
 rotate_left
 ·intro w
  go_simp
  try with_reducible rfl
 try simp only [Act.put, setIfInBounds_toArray, set_cons_zero, set_cons_succ]
 refine till_tk (i := 10) (v := ?_) rfl (Or.inl ⟨by rfl, ?_⟩) hHeld ?_
 rotate_left
 ·intro w
  go_simp
  try with_reducible rfl
 try simp only [Act.put, setIfInBounds_toArray, set_cons_zero, set_cons_succ]
 refine till_tk (i := 11) (v := ?_) rfl (Or.inl ⟨by rfl, ?_⟩) hHeld ?_
 rotate_left
 ·intro w
  go_simp
  try with_reducible rfl
 try simp only [Act.put, setIfInBounds_toArray, set_cons_zero, set_cons_succ]
 refine till_tk (i := 12) (v := ?_) rfl (Or.inl ⟨by rfl, ?_⟩) hHeld ?_
 rotate_left
 ·intro w
  go_simp
  try with_reducible rfl
 try simp only [Act.put, setIfInBounds_toArray, set_cons_zero, set_cons_succ]
 refine till_ld (i := 13) (v := ?_) rfl (Or.inl ⟨by rfl, ?_⟩) hHeld ?_
 rotate_left
 ·intro w hSw
  try dsimp only at hSw
  go_simp
  try with_reducible rfl
 try simp only [Act.put, setIfInBounds_toArray, set_cons_zero, set_cons_succ]
 refine till_tk (i := 14) (v := ?_) rfl (Or.inl ⟨by rfl, ?_⟩) hHeld ?_
 rotate_left
 ·intro w
  go_simp
  try with_reducible rfl
 try simp only [Act.put, setIfInBounds_toArray, set_cons_zero, set_cons_succ]
 refine till_tk (i := 15) (v := ?_) rfl (Or.inl ⟨by rfl, ?_⟩) hHeld ?_
 rotate_left
 ·intro w
  go_simp
  try with_reducible rfl
 try simp only [Act.put, setIfInBounds_toArray, set_cons_zero, set_cons_succ]
 refine till_ready (rs := [8, 16]) (by kernel_rfl) (by simp) ?_
 refine TillAll.cons rfl (fun K hK => ?_) ?_
 ·go_simp
  refine hK _ _ ⟨?_, ?_⟩
  ·go_keep
  clear hK K
  try simp only [Act.put, setIfInBounds_toArray, set_cons_zero, set_cons_succ]
  refine till_ready (rs := [9, 16]) (by kernel_rfl) (by simp) ?_
  refine TillAll.cons rfl (fun K hK => ?_) ?_
  ·go_simp
   go_wp2_with
    (go_at_call 85
     with_reducible refine (callK_int HPS.out ?_ ?_ ?_ hpl hnn hx1 hBw).mono ?_
     ·exact (by (go_light; repeat (first | with_reducible assumption | with_reducible exact Below.refl _ _ | (with_reducible refine Below.setCell ?_ ?_ _; rotate_left; (focus first | (simp; done) | (simp; omega) | omega)) | (with_reducible refine Below.alloc ?_ ?_ _; rotate_left; (focus first | (simp; done) | (simp; omega) | omega)) | with_reducible refine Below.drew ?_)))
     ·first | with_reducible exact hnA _ _ | with_reducible exact hnB _ _ | with_reducible exact hnC _ _ _ | with_reducible exact hnD _ _ _ | with_reducible exact hnE _ _ _ | with_reducible exact hnF _ _ _ | (refine (HX.out _ ?_ ?_).trans ?_ <;> first | with_reducible exact hnA _ _ | with_reducible exact hnB _ _ | with_reducible exact hnC _ _ _ | with_reducible exact hnD _ _ _ | with_reducible exact hnE _ _ _ | with_reducible exact hnF _ _ _ | (simp; done) | (simp; omega) | omega) | (rw [Below.heap_alloc _ _ _ (by omega)]; refine (HX.out _ ?_ ?_).trans ?_ <;> first | with_reducible exact hnA _ _ | with_reducible exact hnB _ _ | with_reducible exact hnC _ _ _ | with_reducible exact hnD _ _ _ | with_reducible exact hnE _ _ _ | with_reducible exact hnF _ _ _ | (simp; done) | (simp; omega) | omega)
     ·have := HPS.out.fr.size; first | exact Nat.le_refl _ | (simp; done) | (simp; omega) | omega
     rintro e W2 ⟨a2, c2, rfl, hps, hxx⟩
     replace HPS := hid hps
     have HX := hid hxx
     have hbW : b < W2.heap.size := Nat.lt_of_lt_of_le hb1 hps.fr.size
     have KB2 := HB1.out.fr hps.fr hb1 HNS.out
     have j0 : W2.cell? ⟨b, o, none⟩ = some (.slice ka ks.length kc) := (KB2 o hol).1.trans hk
     have j1 : W2.cell? ⟨b, o + 1, none⟩ = some (.slice va ks.length vc) := (KB2 (o + 1) ho1).1.trans hv
     have n0 : W2.frozen? ⟨b, o, none⟩ = false := (KB2 o hol).2
     have n1 : W2.frozen? ⟨b, o + 1, none⟩ = false := (KB2 (o + 1) ho1).2
     have hws : w1.heap.size ≤ W2.heap.size := hps.fr.size
     clear hps hxx KB2)
   refine ⟨?_, ?_⟩
   ·go_keep
   try simp only [Act.put, setIfInBounds_toArray, set_cons_zero, set_cons_succ]
   refine till_ready (rs := [16]) (by kernel_rfl) (by simp) ?_
   refine TillAll.cons rfl (fun K hK => ?_) ?_
   ·go_simp
    refine hK _ _ ⟨?_, ?_⟩
    ·go_keep
    clear hK K
    try simp only [Act.put, setIfInBounds_toArray, set_cons_zero, set_cons_succ]
    refine till_ready (rs := [17]) (by kernel_rfl) (by simp) ?_
    refine TillAll.cons rfl (fun K hK => ?_) ?_
    ·go_simp
     go_wp2_with
      (go_at_call 85
       with_reducible refine (callV_int HPS.out ?_ ?_ ?_ hpl hnn rfl hv1 hu1 hBw).mono ?_
       ·exact (by (go_light; repeat (first | with_reducible assumption | with_reducible exact Below.refl _ _ | (with_reducible refine Below.setCell ?_ ?_ _; rotate_left; (focus first | (simp; done) | (simp; omega) | omega)) | (with_reducible refine Below.alloc ?_ ?_ _; rotate_left; (focus first | (simp; done) | (simp; omega) | omega)) | with_reducible refine Below.drew ?_)))
       ·first | with_reducible exact hnA _ _ | with_reducible exact hnB _ _ | with_reducible exact hnC _ _ _ | with_reducible exact hnD _ _ _ | with_reducible exact hnE _ _ _ | with_reducible exact hnF _ _ _ | (refine (HX.out _ ?_ ?_).trans ?_ <;> first | with_reducible exact hnA _ _ | with_reducible exact hnB _ _ | with_reducible exact hnC _ _ _ | with_reducible exact hnD _ _ _ | with_reducible exact hnE _ _ _ | with_reducible exact hnF _ _ _ | (simp; done) | (simp; omega) | omega) | (rw [Below.heap_alloc _ _ _ (by omega)]; refine (HX.out _ ?_ ?_).trans ?_ <;> first | with_reducible exact hnA _ _ | with_reducible exact hnB _ _ | with_reducible exact hnC _ _ _ | with_reducible exact hnD _ _ _ | with_reducible exact hnE _ _ _ | with_reducible exact hnF _ _ _ | (simp; done) | (simp; omega) | omega)
       ·have := HPS.out.fr.size; first | exact Nat.le_refl _ | (simp; done) | (simp; omega) | omega
       rintro e W2 ⟨a2, c2, rfl, hps, hxx⟩
       replace HPS := hid hps
       have HX := hid hxx
       have hbW : b < W2.heap.size := Nat.lt_of_lt_of_le hb1 hps.fr.size
       have KB2 := HB1.out.fr hps.fr hb1 HNS.out
       have j0 : W2.cell? ⟨b, o, none⟩ = some (.slice ka ks.length kc) := (KB2 o hol).1.trans hk
       have j1 : W2.cell? ⟨b, o + 1, none⟩ = some (.slice va ks.length vc) := (KB2 (o + 1) ho1).1.trans hv
       have n0 : W2.frozen? ⟨b, o, none⟩ = false := (KB2 o hol).2
       have n1 : W2.frozen? ⟨b, o + 1, none⟩ = false := (KB2 (o + 1) ho1).2
       have hws : w1.heap.size ≤ W2.heap.size := hps.fr.size
       clear hps hxx KB2)
     refine ⟨?_, ?_⟩
     ·go_keep
     try simp only [Act.put, setIfInBounds_toArray, set_cons_zero, set_cons_succ]
     refine till_ready (rs := [18]) (by kernel_rfl) (by simp) (TillAll.cons2 rfl (by kernel_rfl) (fun K hK => ?_) TillAll.nil)
     go_simp
     refine hK _ _ ?_
     clear hK K
     try simp only [Act.put, setIfInBounds_toArray, set_cons_zero, set_cons_succ]
     refine till_ready (rs := [19]) (by kernel_rfl) (by simp) (TillAll.cons2 rfl (by kernel_rfl) (fun K hK => ?_) TillAll.nil)
     go_simp
     refine hK _ _ ?_
     clear hK K
     try simp only [Act.put, setIfInBounds_toArray, set_cons_zero, set_cons_succ]
     refine till_ready (rs := [20]) (by kernel_rfl) (by simp) (TillAll.cons2 rfl (by kernel_rfl) (fun K hK => ?_) TillAll.nil)
     go_simp
     refine hK _ _ ?_
     clear hK K
     try simp only [Act.put, setIfInBounds_toArray, set_cons_zero, set_cons_succ]
     refine till_ready (rs := [21]) (by kernel_rfl) (by simp) (TillAll.cons2 rfl (by kernel_rfl) (fun K hK => ?_) TillAll.nil)
     go_simp
     refine hK _ _ ?_
     clear hK K
     try simp only [Act.put, setIfInBounds_toArray, set_cons_zero, set_cons_succ]
     refine till_ready (rs := [22]) (by kernel_rfl) (by simp) (TillAll.cons2 rfl (by kernel_rfl) (fun K hK => ?_) TillAll.nil)
     go_simp
     refine hK _ _ ?_
     clear hK K
     try simp only [Act.put, setIfInBounds_toArray, set_cons_zero, set_cons_succ]
     refine till_ready (rs := [23]) (by kernel_rfl) (by simp) (TillAll.cons2 rfl (by kernel_rfl) (fun K hK => ?_) TillAll.nil)
     go_simp
     refine hK _ _ ?_
     clear hK K
     try simp only [Act.put, setIfInBounds_toArray, set_cons_zero, set_cons_succ]
     refine till_done (by kernel_rfl) ?_ _
     go_wp2
     refine bodyPost_ret (results_none rfl _ _ _) rfl ?_
     exact HFE.out _ _ _ _ HPS.out
    exact TillAll.nil
   exact TillAll.nil
  refine TillAll.cons rfl (fun K hK => ?_) ?_
  ·go_simp
   refine hK _ _ ⟨?_, ?_⟩
   ·go_keep
   clear hK K
   try simp only [Act.put, setIfInBounds_toArray, set_cons_zero, set_cons_succ]
   refine till_ready (rs := [9]) (by kernel_rfl) (by simp) ?_
   refine TillAll.cons rfl (fun K hK => ?_) ?_
   ·go_simp
    go_wp2_with
     (go_at_call 85
      with_reducible refine (callK_int HPS.out ?_ ?_ ?_ hpl hnn hx1 hBw).mono ?_
      ·exact (by (go_light; repeat (first | with_reducible assumption | with_reducible exact Below.refl _ _ | (with_reducible refine Below.setCell ?_ ?_ _; rotate_left; (focus first | (simp; done) | (simp; omega) | omega)) | (with_reducible refine Below.alloc ?_ ?_ _; rotate_left; (focus first | (simp; done) | (simp; omega) | omega)) | with_reducible refine Below.drew ?_)))
      ·first | with_reducible exact hnA _ _ | with_reducible exact hnB _ _ | with_reducible exact hnC _ _ _ | with_reducible exact hnD _ _ _ | with_reducible exact hnE _ _ _ | with_reducible exact hnF _ _ _ | (refine (HX.out _ ?_ ?_).trans ?_ <;> first | with_reducible exact hnA _ _ | with_reducible exact hnB _ _ | with_reducible exact hnC _ _ _ | with_reducible exact hnD _ _ _ | with_reducible exact hnE _ _ _ | with_reducible exact hnF _ _ _ | (simp; done) | (simp; omega) | omega) | (rw [Below.heap_alloc _ _ _ (by omega)]; refine (HX.out _ ?_ ?_).trans ?_ <;> first | with_reducible exact hnA _ _ | with_reducible exact hnB _ _ | with_reducible exact hnC _ _ _ | with_reducible exact hnD _ _ _ | with_reducible exact hnE _ _ _ | with_reducible exact hnF _ _ _ | (simp; done) | (simp; omega) | omega)
      ·have := HPS.out.fr.size; first | exact Nat.le_refl _ | (simp; done) | (simp; omega) | omega
      rintro e W2 ⟨a2, c2, rfl, hps, hxx⟩
      replace HPS := hid hps
      have HX := hid hxx
      have hbW : b < W2.heap.size := Nat.lt_of_lt_of_le hb1 hps.fr.size
      have KB2 := HB1.out.fr hps.fr hb1 HNS.out
      have j0 : W2.cell? ⟨b, o, none⟩ = some (.slice ka ks.length kc) := (KB2 o hol).1.trans hk
      have j1 : W2.cell? ⟨b, o + 1, none⟩ = some (.slice va ks.length vc) := (KB2 (o + 1) ho1).1.trans hv
      have n0 : W2.frozen? ⟨b, o, none⟩ = false := (KB2 o hol).2
      have n1 : W2.frozen? ⟨b, o + 1, none⟩ = false := (KB2 (o + 1) ho1).2
      have hws : w1.heap.size ≤ W2.heap.size := hps.fr.size
      clear hps hxx KB2)
    refine ⟨?_, ?_⟩
    ·go_keep
    try simp only [Act.put, setIfInBounds_toArray, set_cons_zero, set_cons_succ]
    refine till_ready (rs := [17]) (by kernel_rfl) (by simp) ?_
    refine TillAll.cons rfl (fun K hK => ?_) ?_
    ·go_simp
     go_wp2_with
      (go_at_call 85
       with_reducible refine (callV_int HPS.out ?_ ?_ ?_ hpl hnn rfl hv1 hu1 hBw).mono ?_
       ·exact (by (go_light; repeat (first | with_reducible assumption | with_reducible exact Below.refl _ _ | (with_reducible refine Below.setCell ?_ ?_ _; rotate_left; (focus first | (simp; done) | (simp; omega) | omega)) | (with_reducible refine Below.alloc ?_ ?_ _; rotate_left; (focus first | (simp; done) | (simp; omega) | omega)) | with_reducible refine Below.drew ?_)))
       ·first | with_reducible exact hnA _ _ | with_reducible exact hnB _ _ | with_reducible exact hnC _ _ _ | with_reducible exact hnD _ _ _ | with_reducible exact hnE _ _ _ | with_reducible exact hnF _ _ _ | (refine (HX.out _ ?_ ?_).trans ?_ <;> first | with_reducible exact hnA _ _ | with_reducible exact hnB _ _ | with_reducible exact hnC _ _ _ | with_reducible exact hnD _ _ _ | with_reducible exact hnE _ _ _ | with_reducible exact hnF _ _ _ | (simp; done) | (simp; omega) | omega) | (rw [Below.heap_alloc _ _ _ (by omega)]; refine (HX.out _ ?_ ?_).trans ?_ <;> first | with_reducible exact hnA _ _ | with_reducible exact hnB _ _ | with_reducible exact hnC _ _ _ | with_reducible exact hnD _ _ _ | with_reducible exact hnE _ _ _ | with_reducible exact hnF _ _ _ | (simp; done) | (simp; omega) | omega)
       ·have := HPS.out.fr.size; first | exact Nat.le_refl _ | (simp; done) | (simp; omega) | omega
       rintro e W2 ⟨a2, c2, rfl, hps, hxx⟩
       replace HPS := hid hps
       have HX := hid hxx
       have hbW : b < W2.heap.size := Nat.lt_of_lt_of_le hb1 hps.fr.size
       have KB2 := HB1.out.fr hps.fr hb1 HNS.out
       have j0 : W2.cell? ⟨b, o, none⟩ = some (.slice ka ks.length kc) := (KB2 o hol).1.trans hk
       have j1 : W2.cell? ⟨b, o + 1, none⟩ = some (.slice va ks.length vc) := (KB2 (o + 1) ho1).1.trans hv
       have n0 : W2.frozen? ⟨b, o, none⟩ = false := (KB2 o hol).2
       have n1 : W2.frozen? ⟨b, o + 1, none⟩ = false := (KB2 (o + 1) ho1).2
       have hws : w1.heap.size ≤ W2.heap.size := hps.fr.size
       clear hps hxx KB2)
     refine ⟨?_, ?_⟩
     ·go_keep
     try simp only [Act.put, setIfInBounds_toArray, set_cons_zero, set_cons_succ]
     refine till_ready (rs := [18]) (by kernel_rfl) (by simp) (TillAll.cons2 rfl (by kernel_rfl) (fun K hK => ?_) TillAll.nil)
     go_simp
     refine hK _ _ ?_
     clear hK K
     try simp only [Act.put, setIfInBounds_toArray, set_cons_zero, set_cons_succ]
     refine till_ready (rs := [19]) (by kernel_rfl) (by simp) (TillAll.cons2 rfl (by kernel_rfl) (fun K hK => ?_) TillAll.nil)
     go_simp
     refine hK _ _ ?_
     clear hK K
     try simp only [Act.put, setIfInBounds_toArray, set_cons_zero, set_cons_succ]
     refine till_ready (rs := [20]) (by kernel_rfl) (by simp) (TillAll.cons2 rfl (by kernel_rfl) (fun K hK => ?_) TillAll.nil)
     go_simp
     refine hK _ _ ?_
     clear hK K
     try simp only [Act.put, setIfInBounds_toArray, set_cons_zero, set_cons_succ]
     refine till_ready (rs := [21]) (by kernel_rfl) (by simp) (TillAll.cons2 rfl (by kernel_rfl) (fun K hK => ?_) TillAll.nil)
     go_simp
     refine hK _ _ ?_
     clear hK K
     try simp only [Act.put, setIfInBounds_toArray, set_cons_zero, set_cons_succ]
     refine till_ready (rs := [22]) (by kernel_rfl) (by simp) (TillAll.cons2 rfl (by kernel_rfl) (fun K hK => ?_) TillAll.nil)
     go_simp
     refine hK _ _ ?_
     clear hK K
     try simp only [Act.put, setIfInBounds_toArray, set_cons_zero, set_cons_succ]
     refine till_ready (rs := [23]) (by kernel_rfl) (by simp) (TillAll.cons2 rfl (by kernel_rfl) (fun K hK => ?_) TillAll.nil)
     go_simp
     refine hK _ _ ?_
     clear hK K
     try simp only [Act.put, setIfInBounds_toArray, set_cons_zero, set_cons_succ]
     refine till_done (by kernel_rfl) ?_ _
     go_wp2
     refine bodyPost_ret (results_none rfl _ _ _) rfl ?_
     exact HFE.out _ _ _ _ HPS.out
    exact TillAll.nil
   exact TillAll.nil
  exact TillAll.nil
 refine TillAll.cons rfl (fun K hK => ?_) ?_
 ·go_simp
  refine hK _ _ ⟨?_, ?_⟩
  ·go_keep
  clear hK K
  try simp only [Act.put, setIfInBounds_toArray, set_cons_zero, set_cons_succ]
  refine till_ready (rs := [8]) (by kernel_rfl) (by simp) ?_
  refine TillAll.cons rfl (fun K hK => ?_) ?_
  ·go_simp
   refine hK _ _ ⟨?_, ?_⟩
   ·go_keep
   clear hK K
   try simp only [Act.put, setIfInBounds_toArray, set_cons_zero, set_cons_succ]
   refine till_ready (rs := [9]) (by kernel_rfl) (by simp) ?_
   refine TillAll.cons rfl (fun K hK => ?_) ?_
   ·go_simp
    go_wp2_with
     (go_at_call 85
      with_reducible refine (callK_int HPS.out ?_ ?_ ?_ hpl hnn hx1 hBw).mono ?_
      ·exact (by (go_light; repeat (first | with_reducible assumption | with_reducible exact Below.refl _ _ | (with_reducible refine Below.setCell ?_ ?_ _; rotate_left; (focus first | (simp; done) | (simp; omega) | omega)) | (with_reducible refine Below.alloc ?_ ?_ _; rotate_left; (focus first | (simp; done) | (simp; omega) | omega)) | with_reducible refine Below.drew ?_)))
      ·first | with_reducible exact hnA _ _ | with_reducible exact hnB _ _ | with_reducible exact hnC _ _ _ | with_reducible exact hnD _ _ _ | with_reducible exact hnE _ _ _ | with_reducible exact hnF _ _ _ | (refine (HX.out _ ?_ ?_).trans ?_ <;> first | with_reducible exact hnA _ _ | with_reducible exact hnB _ _ | with_reducible exact hnC _ _ _ | with_reducible exact hnD _ _ _ | with_reducible exact hnE _ _ _ | with_reducible exact hnF _ _ _ | (simp; done) | (simp; omega) | omega) | (rw [Below.heap_alloc _ _ _ (by omega)]; refine (HX.out _ ?_ ?_).trans ?_ <;> first | with_reducible exact hnA _ _ | with_reducible exact hnB _ _ | with_reducible exact hnC _ _ _ | with_reducible exact hnD _ _ _ | with_reducible exact hnE _ _ _ | with_reducible exact hnF _ _ _ | (simp; done) | (simp; omega) | omega)
      ·have := HPS.out.fr.size; first | exact Nat.le_refl _ | (simp; done) | (simp; omega) | omega
      rintro e W2 ⟨a2, c2, rfl, hps, hxx⟩
      replace HPS := hid hps
      have HX := hid hxx
      have hbW : b < W2.heap.size := Nat.lt_of_lt_of_le hb1 hps.fr.size
      have KB2 := HB1.out.fr hps.fr hb1 HNS.out
      have j0 : W2.cell? ⟨b, o, none⟩ = some (.slice ka ks.length kc) := (KB2 o hol).1.trans hk
      have j1 : W2.cell? ⟨b, o + 1, none⟩ = some (.slice va ks.length vc) := (KB2 (o + 1) ho1).1.trans hv
      have n0 : W2.frozen? ⟨b, o, none⟩ = false := (KB2 o hol).2
      have n1 : W2.frozen? ⟨b, o + 1, none⟩ = false := (KB2 (o + 1) ho1).2
      have hws : w1.heap.size ≤ W2.heap.size := hps.fr.size
      clear hps hxx KB2)
    refine ⟨?_, ?_⟩
    ·go_keep
    try simp only [Act.put, setIfInBounds_toArray, set_cons_zero, set_cons_succ]
    refine till_ready (rs := [17]) (by kernel_rfl) (by simp) ?_
    refine TillAll.cons rfl (fun K hK => ?_) ?_
    ·go_simp
     go_wp2_with
      (go_at_call 85
       with_reducible refine (callV_int HPS.out ?_ ?_ ?_ hpl hnn rfl hv1 hu1 hBw).mono ?_
       ·exact (by (go_light; repeat (first | with_reducible assumption | with_reducible exact Below.refl _ _ | (with_reducible refine Below.setCell ?_ ?_ _; rotate_left; (focus first | (simp; done) | (simp; omega) | omega)) | (with_reducible refine Below.alloc ?_ ?_ _; rotate_left; (focus first | (simp; done) | (simp; omega) | omega)) | with_reducible refine Below.drew ?_)))
       ·first | with_reducible exact hnA _ _ | with_reducible exact hnB _ _ | with_reducible exact hnC _ _ _ | with_reducible exact hnD _ _ _ | with_reducible exact hnE _ _ _ | with_reducible exact hnF _ _ _ | (refine (HX.out _ ?_ ?_).trans ?_ <;> first | with_reducible exact hnA _ _ | with_reducible exact hnB _ _ | with_reducible exact hnC _ _ _ | with_reducible exact hnD _ _ _ | with_reducible exact hnE _ _ _ | with_reducible exact hnF _ _ _ | (simp; done) | (simp; omega) | omega) | (rw [Below.heap_alloc _ _ _ (by omega)]; refine (HX.out _ ?_ ?_).trans ?_ <;> first | with_reducible exact hnA _ _ | with_reducible exact hnB _ _ | with_reducible exact hnC _ _ _ | with_reducible exact hnD _ _ _ | with_reducible exact hnE _ _ _ | with_reducible exact hnF _ _ _ | (simp; done) | (simp; omega) | omega)
       ·have := HPS.out.fr.size; first | exact Nat.le_refl _ | (simp; done) | (simp; omega) | omega
       rintro e W2 ⟨a2, c2, rfl, hps, hxx⟩
       replace HPS := hid hps
       have HX := hid hxx
       have hbW : b < W2.heap.size := Nat.lt_of_lt_of_le hb1 hps.fr.size
       have KB2 := HB1.out.fr hps.fr hb1 HNS.out
       have j0 : W2.cell? ⟨b, o, none⟩ = some (.slice ka ks.length kc) := (KB2 o hol).1.trans hk
       have j1 : W2.cell? ⟨b, o + 1, none⟩ = some (.slice va ks.length vc) := (KB2 (o + 1) ho1).1.trans hv
       have n0 : W2.frozen? ⟨b, o, none⟩ = false := (KB2 o hol).2
       have n1 : W2.frozen? ⟨b, o + 1, none⟩ = false := (KB2 (o + 1) ho1).2
       have hws : w1.heap.size ≤ W2.heap.size := hps.fr.size
       clear hps hxx KB2)
     refine ⟨?_, ?_⟩
     ·go_keep
     try simp only [Act.put, setIfInBounds_toArray, set_cons_zero, set_cons_succ]
     refine till_ready (rs := [18]) (by kernel_rfl) (by simp) (TillAll.cons2 rfl (by kernel_rfl) (fun K hK => ?_) TillAll.nil)
     go_simp
     refine hK _ _ ?_
     clear hK K
     try simp only [Act.put, setIfInBounds_toArray, set_cons_zero, set_cons_succ]
     refine till_ready (rs := [19]) (by kernel_rfl) (by simp) (TillAll.cons2 rfl (by kernel_rfl) (fun K hK => ?_) TillAll.nil)
     go_simp
     refine hK _ _ ?_
     clear hK K
     try simp only [Act.put, setIfInBounds_toArray, set_cons_zero, set_cons_succ]
     refine till_ready (rs := [20]) (by kernel_rfl) (by simp) (TillAll.cons2 rfl (by kernel_rfl) (fun K hK => ?_) TillAll.nil)
     go_simp
     refine hK _ _ ?_
     clear hK K
     try simp only [Act.put, setIfInBounds_toArray, set_cons_zero, set_cons_succ]
     refine till_ready (rs := [21]) (by kernel_rfl) (by simp) (TillAll.cons2 rfl (by kernel_rfl) (fun K hK => ?_) TillAll.nil)
     go_simp
     refine hK _ _ ?_
     clear hK K
     try simp only [Act.put, setIfInBounds_toArray, set_cons_zero, set_cons_succ]
     refine till_ready (rs := [22]) (by kernel_rfl) (by simp) (TillAll.cons2 rfl (by kernel_rfl) (fun K hK => ?_) TillAll.nil)
     go_simp
     refine hK _ _ ?_
     clear hK K
     try simp only [Act.put, setIfInBounds_toArray, set_cons_zero, set_cons_succ]
     refine till_ready (rs := [23]) (by kernel_rfl) (by simp) (TillAll.cons2 rfl (by kernel_rfl) (fun K hK => ?_) TillAll.nil)
     go_simp
     refine hK _ _ ?_
     clear hK K
     try simp only [Act.put, setIfInBounds_toArray, set_cons_zero, set_cons_succ]
     refine till_done (by kernel_rfl) ?_ _
     go_wp2
     refine bodyPost_ret (results_none rfl _ _ _) rfl ?_
     exact HFE.out _ _ _ _ HPS.out
    exact TillAll.nil
   exact TillAll.nil
  exact TillAll.nil
 exact TillAll.nil
end Go.Proofs.YtblkgicbimflhaaGreat
