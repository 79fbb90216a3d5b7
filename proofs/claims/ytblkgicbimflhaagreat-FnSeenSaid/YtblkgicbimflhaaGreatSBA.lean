import Derived.Test.YtblkgicbimflhaaGreatSAW
import Derived.Deep.RegionWith
import Derived.Deep.RegionHeld3
import Derived.Test.YtblkgicbimflhaaGreatSAZ
import Derived.Deep.DeepCutAuto
namespace Go.Proofs.YtblkgicbimflhaaGreat
open Go.ChangeShapes Go.WideShapes Go.ChangeAt Go.RowKit
set_option linter.unusedVariables false
set_option linter.unusedSimpArgs false
set_option maxRecDepth 100000
set_option maxHeartbeats 16000000
theorem put_int_new (B b o : Nat) (cs : List Value) (kv vv : Value) (ks us : List Int) (x u : Int) (w : World) (hb : Blk w b cs) (hbl : b < w.heap.size) (hk : cs[o]? = some kv) (hv : cs[o + 1]? = some vv) (hK : w.ownsRow B 3 1 kv ks.length (ks.map (Value.int .i64))) (hV : w.ownsRow B 3 1 vv ks.length (us.map (Value.int .i64))) (hs : ks.Pairwise (· < ·)) (hn : ks.length < 1048576) (hkb : kv.ownBlock ≠ some b) (hvb : vv.ownBlock ≠ some b) (hkv : ∀ g, kv.ownBlock = some g -> vv.ownBlock ≠ some g) (hB : B <= w.heap.size) (hx : ks.contains x = false) :
 Calls Tryz.prog 68 #[.pointer (some ⟨b, o, none⟩), .int .i64 x, .int .i64 u] w fun en w' => PutP B b o 3 1 w cs kv vv (putKs ks x) ((putVs ks us x u).map (Value.int .i64)) en w' := by
 have hol : o < cs.length := (List.getElem?_eq_some_iff.1 hk).1
 have ho1 : o + 1 < cs.length := (List.getElem?_eq_some_iff.1 hv).1
 have c0 : w.cell? ⟨b, o, none⟩ = some kv := (hb o hol).1.trans hk
 have c1 : w.cell? ⟨b, o + 1, none⟩ = some vv := (hb (o + 1) ho1).1.trans hv
 have hbin := bin_any B kv ks x w hK hs (by omega)
 have hpl := posN_le ks x
 obtain ⟨ka, kc, hkf⟩ := formR hK
 obtain ⟨va, vc, hvf⟩ := formR hV
 have hKL := fun g hg => (hK.lt g hg).2
 have hVL := fun g hg => (hV.lt g hg).2
 have HFIN := hid (fun (w1 Wp : World) (kv' vv' r : Value) (h1 : PSt B 3 1 ks.length (posN ks x) w1 kv vv (ks.map (Value.int .i64)) (us.map (Value.int .i64)) [.int .i64 x] [.int .i64 u] true true Wp kv' vv') (h2 : Below w.heap.size w w1) (h3 : w1.heap.size = w.heap.size) (h4 : Blk w1 b cs) => put_end_int (o := o) (ks' := putKs ks x) (zs := (putVs ks us x u).map (Value.int .i64)) h1 h2 h3 h4 hbl ho1 hkb hvb (putKs_len ks x hx) (by unfold putKs; rw [if_neg (by rw [hx]; decide)]; simp) (by unfold putVs; rw [if_neg (by rw [hx]; decide)]; simp) r)
 obtain ⟨p, hp⟩ : ∃ p, p = posN ks x := ⟨_, rfl⟩
 rw [<- hp] at hbin hpl HFIN
 rw [hx] at hbin
 subst hkf hvf
 clear hp hs hx
 go_enter Tryz.func68, Tryz.ntmps68
 go_wp2_with (go_at_call 82; fail)
 refine hbin.mono ?_
 rintro e w1 ⟨rfl, q, hq⟩
 have b1 : Below w.heap.size w w1 := by rw [hq]; exact below_drewNt w q
 have hz1 : w1.heap.size = w.heap.size := by rw [hq]; rfl
 clear hq hbin
 have d0 : w1.cell? ⟨b, o, none⟩ = some (.slice ka ks.length kc) := ct b1 hbl c0
 have d1 : w1.cell? ⟨b, o + 1, none⟩ = some (.slice va ks.length vc) := ct b1 hbl c1
 have HB1 := hid (hb.below b1 hbl)
 have hb1 : b < w1.heap.size := by omega
 have hBw : B <= w1.heap.size := by omega
 have hnn : ks.length <= 1048576 := by omega
 have HPS : Hid (PSt B 3 1 ks.length p w1 (.slice ka ks.length kc) (.slice va ks.length vc) (ks.map (Value.int .i64)) (us.map (Value.int .i64)) [.int .i64 x] [.int .i64 u] false false w1 (.slice ka ks.length kc) (.slice va ks.length vc)) := hid (⟨Fr.refl _ _, by simp only [Bool.false_eq_true, if_false]; exact ⟨trivial, own_below hK b1⟩, by simp only [Bool.false_eq_true, if_false]; exact ⟨trivial, own_below hV b1⟩, fun g z => .inl z, fun g z => .inl z, fun g z => by rw [hz1]; exact hKL g z, fun g z => by rw [hz1]; exact hVL g z, hkv, hkv⟩)
 have HNS : Hid (¬ ((Value.slice ka ks.length kc).ownBlock = some b \/ (Value.slice va ks.length vc).ownBlock = some b)) := hid (fun z => by rcases z with z | z; exact hkb z; exact hvb z)
 have HFE := hid (fun (Wp : World) (kv' vv' r : Value) h1 => HFIN.out w1 Wp kv' vv' r h1 b1 hz1 HB1.out)
 have hx1 : ∀ z ∈ ks.map (Value.int .i64), z.oneCell' = true := fun z hz => by obtain ⟨y, _, rfl⟩ := List.mem_map.1 hz; rfl
 have hu1 : ∀ z ∈ us.map (Value.int .i64), z.oneCell' = true := fun z hz => by obtain ⟨y, _, rfl⟩ := List.mem_map.1 hz; rfl
 have hv1 : ∀ z ∈ [Value.int .i64 u], z.oneCell' = true := by simp [Value.oneCell']
 clear c0 c1 hK hV hb hKL hVL HFIN hkv hkb hvb b1 hz1
 go_wp2
 refine wp_region_till_drew (S := (fun W => W.cell? ⟨b, o, none⟩ = some (.slice ka ks.length kc) /\ W.cell? ⟨b, o + 1, none⟩ = some (.slice va ks.length vc))) (late := [18, 19, 20, 21, 22, 23]) (by kernel_rfl) (by go_keep) (fun hHeld => ?_)
 refine tT 0 rfl hHeld ?_
 try simp only [Act.put, q1, q2, q3]
 refine tT 1 rfl hHeld ?_
 try simp only [Act.put, q1, q2, q3]
 refine tT 2 rfl hHeld ?_
 try simp only [Act.put, q1, q2, q3]
 refine tT 3 rfl hHeld ?_
 try simp only [Act.put, q1, q2, q3]
 refine tT 4 rfl hHeld ?_
 try simp only [Act.put, q1, q2, q3]
 refine till_ld (i := 5) (v := ?_) rfl (Or.inl ⟨by rfl, ?_⟩) hHeld ?_
 rotate_left
 .intro w hSw
  try dsimp only at hSw
  go_simp
  try with_reducible rfl
 try simp only [Act.put, q1, q2, q3]
 refine tT 6 rfl hHeld ?_
 try simp only [Act.put, q1, q2, q3]
 refine tT 7 rfl hHeld ?_
 try simp only [Act.put, q1, q2, q3]
 refine tT 10 rfl hHeld ?_
 try simp only [Act.put, q1, q2, q3]
 refine tT 11 rfl hHeld ?_
 try simp only [Act.put, q1, q2, q3]
 refine tT 12 rfl hHeld ?_
 try simp only [Act.put, q1, q2, q3]
 refine till_ld (i := 13) (v := ?_) rfl (Or.inl ⟨by rfl, ?_⟩) hHeld ?_
 rotate_left
 .intro w hSw
  try dsimp only at hSw
  go_simp
  try with_reducible rfl
 try simp only [Act.put, q1, q2, q3]
 refine tT 14 rfl hHeld ?_
 try simp only [Act.put, q1, q2, q3]
 refine tT 15 rfl hHeld ?_
 try simp only [Act.put, q1, q2, q3]
 refine till_ready (rs := [8, 16]) (by kernel_rfl) (by simp) ?_
 refine TillAll.cons rfl (fun K hK => ?_) ?_
 .go_simp
  refine hK _ _ ⟨?_, ?_⟩
  .go_keep
  clear hK K
  try simp only [Act.put, q1, q2, q3]
  refine till_ready (rs := [9, 16]) (by kernel_rfl) (by simp) ?_
  refine TillAll.cons rfl (fun K hK => ?_) ?_
  .go_simp
   go_wp2_with
    (go_at_call 85
     with_reducible refine (callK_int HPS.out ?_ ?_ ?_ hpl hnn hx1 hBw).mono ?_
     .exact bl
     .first | (with_reducible first | exact hnA _ _ | exact hnB _ _ | exact hnC _ _ _ | exact hnD _ _ _ | exact hnE _ _ _ | exact hnF _ _ _) | (refine (HX.out _ ?_ ?_).trans ?_ <;> first | (with_reducible first | exact hnA _ _ | exact hnB _ _ | exact hnC _ _ _ | exact hnD _ _ _ | exact hnE _ _ _ | exact hnF _ _ _) | (simp; done) | (simp; omega) | omega) | (rw [Below.heap_alloc _ _ _ (by omega)]; refine (HX.out _ ?_ ?_).trans ?_ <;> first | (with_reducible first | exact hnA _ _ | exact hnB _ _ | exact hnC _ _ _ | exact hnD _ _ _ | exact hnE _ _ _ | exact hnF _ _ _) | (simp; done) | (simp; omega) | omega)
     .have := HPS.out.fr.size; first | exact Nat.le_refl _ | (simp; done) | (simp; omega) | omega
     rintro e W2 ⟨a2, c2, rfl, hps, hxx⟩
     replace HPS := hid hps
     have HX := hid hxx
     have hbW : b < W2.heap.size := Nat.lt_of_lt_of_le hb1 hps.fr.size
     have KB2 := HB1.out.fr hps.fr hb1 HNS.out
     obtain ⟨j0, j1, n0, n1⟩ := kj KB2 hol ho1 hk hv
     have hws : w1.heap.size <= W2.heap.size := hps.fr.size
     clear hps hxx KB2)
   refine ⟨?_, ?_⟩
   .go_keep
   try simp only [Act.put, q1, q2, q3]
   refine till_ready (rs := [16]) (by kernel_rfl) (by simp) ?_
   refine TillAll.cons rfl (fun K hK => ?_) ?_
   .go_simp
    refine hK _ _ ⟨?_, ?_⟩
    .go_keep
    clear hK K
    try simp only [Act.put, q1, q2, q3]
    refine till_ready (rs := [17]) (by kernel_rfl) (by simp) ?_
    refine TillAll.cons rfl (fun K hK => ?_) ?_
    .go_simp
     go_wp2_with
      (go_at_call 85
       with_reducible refine (callV_int HPS.out ?_ ?_ ?_ hpl hnn rfl hv1 hu1 hBw).mono ?_
       .exact bl
       .first | (with_reducible first | exact hnA _ _ | exact hnB _ _ | exact hnC _ _ _ | exact hnD _ _ _ | exact hnE _ _ _ | exact hnF _ _ _) | (refine (HX.out _ ?_ ?_).trans ?_ <;> first | (with_reducible first | exact hnA _ _ | exact hnB _ _ | exact hnC _ _ _ | exact hnD _ _ _ | exact hnE _ _ _ | exact hnF _ _ _) | (simp; done) | (simp; omega) | omega) | (rw [Below.heap_alloc _ _ _ (by omega)]; refine (HX.out _ ?_ ?_).trans ?_ <;> first | (with_reducible first | exact hnA _ _ | exact hnB _ _ | exact hnC _ _ _ | exact hnD _ _ _ | exact hnE _ _ _ | exact hnF _ _ _) | (simp; done) | (simp; omega) | omega)
       .have := HPS.out.fr.size; first | exact Nat.le_refl _ | (simp; done) | (simp; omega) | omega
       rintro e W2 ⟨a2, c2, rfl, hps, hxx⟩
       replace HPS := hid hps
       have HX := hid hxx
       have hbW : b < W2.heap.size := Nat.lt_of_lt_of_le hb1 hps.fr.size
       have KB2 := HB1.out.fr hps.fr hb1 HNS.out
       obtain ⟨j0, j1, n0, n1⟩ := kj KB2 hol ho1 hk hv
       have hws : w1.heap.size <= W2.heap.size := hps.fr.size
       clear hps hxx KB2)
     refine ⟨?_, ?_⟩
     .go_keep
     try simp only [Act.put, q1, q2, q3]
     refine rL 18 rfl fun K hK => ?_
     go_simp
     refine hK _ _ ?_
     clear hK K
     try simp only [Act.put, q1, q2, q3]
     refine rL 19 rfl fun K hK => ?_
     go_simp
     refine hK _ _ ?_
     clear hK K
     try simp only [Act.put, q1, q2, q3]
     refine rL 20 rfl fun K hK => ?_
     go_simp
     refine hK _ _ ?_
     clear hK K
     try simp only [Act.put, q1, q2, q3]
     refine rL 21 rfl fun K hK => ?_
     go_simp
     refine hK _ _ ?_
     clear hK K
     try simp only [Act.put, q1, q2, q3]
     refine rL 22 rfl fun K hK => ?_
     go_simp
     refine hK _ _ ?_
     clear hK K
     try simp only [Act.put, q1, q2, q3]
     refine rL 23 rfl fun K hK => ?_
     go_simp
     refine hK _ _ ?_
     clear hK K
     try simp only [Act.put, q1, q2, q3]
     refine till_done (by kernel_rfl) ?_ _
     go_wp2
     refine bodyPost_ret (results_none rfl _ _ _) rfl ?_
     exact HFE.out _ _ _ _ HPS.out
    exact TillAll.nil
   exact TillAll.nil
  refine TillAll.cons rfl (fun K hK => ?_) ?_
  .go_simp
   refine hK _ _ ⟨?_, ?_⟩
   .go_keep
   clear hK K
   try simp only [Act.put, q1, q2, q3]
   refine till_ready (rs := [9]) (by kernel_rfl) (by simp) ?_
   refine TillAll.cons rfl (fun K hK => ?_) ?_
   .go_simp
    go_wp2_with
     (go_at_call 85
      with_reducible refine (callK_int HPS.out ?_ ?_ ?_ hpl hnn hx1 hBw).mono ?_
      .exact bl
      .first | (with_reducible first | exact hnA _ _ | exact hnB _ _ | exact hnC _ _ _ | exact hnD _ _ _ | exact hnE _ _ _ | exact hnF _ _ _) | (refine (HX.out _ ?_ ?_).trans ?_ <;> first | (with_reducible first | exact hnA _ _ | exact hnB _ _ | exact hnC _ _ _ | exact hnD _ _ _ | exact hnE _ _ _ | exact hnF _ _ _) | (simp; done) | (simp; omega) | omega) | (rw [Below.heap_alloc _ _ _ (by omega)]; refine (HX.out _ ?_ ?_).trans ?_ <;> first | (with_reducible first | exact hnA _ _ | exact hnB _ _ | exact hnC _ _ _ | exact hnD _ _ _ | exact hnE _ _ _ | exact hnF _ _ _) | (simp; done) | (simp; omega) | omega)
      .have := HPS.out.fr.size; first | exact Nat.le_refl _ | (simp; done) | (simp; omega) | omega
      rintro e W2 ⟨a2, c2, rfl, hps, hxx⟩
      replace HPS := hid hps
      have HX := hid hxx
      have hbW : b < W2.heap.size := Nat.lt_of_lt_of_le hb1 hps.fr.size
      have KB2 := HB1.out.fr hps.fr hb1 HNS.out
      obtain ⟨j0, j1, n0, n1⟩ := kj KB2 hol ho1 hk hv
      have hws : w1.heap.size <= W2.heap.size := hps.fr.size
      clear hps hxx KB2)
    refine ⟨?_, ?_⟩
    .go_keep
    try simp only [Act.put, q1, q2, q3]
    refine till_ready (rs := [17]) (by kernel_rfl) (by simp) ?_
    refine TillAll.cons rfl (fun K hK => ?_) ?_
    .go_simp
     go_wp2_with
      (go_at_call 85
       with_reducible refine (callV_int HPS.out ?_ ?_ ?_ hpl hnn rfl hv1 hu1 hBw).mono ?_
       .exact bl
       .first | (with_reducible first | exact hnA _ _ | exact hnB _ _ | exact hnC _ _ _ | exact hnD _ _ _ | exact hnE _ _ _ | exact hnF _ _ _) | (refine (HX.out _ ?_ ?_).trans ?_ <;> first | (with_reducible first | exact hnA _ _ | exact hnB _ _ | exact hnC _ _ _ | exact hnD _ _ _ | exact hnE _ _ _ | exact hnF _ _ _) | (simp; done) | (simp; omega) | omega) | (rw [Below.heap_alloc _ _ _ (by omega)]; refine (HX.out _ ?_ ?_).trans ?_ <;> first | (with_reducible first | exact hnA _ _ | exact hnB _ _ | exact hnC _ _ _ | exact hnD _ _ _ | exact hnE _ _ _ | exact hnF _ _ _) | (simp; done) | (simp; omega) | omega)
       .have := HPS.out.fr.size; first | exact Nat.le_refl _ | (simp; done) | (simp; omega) | omega
       rintro e W2 ⟨a2, c2, rfl, hps, hxx⟩
       replace HPS := hid hps
       have HX := hid hxx
       have hbW : b < W2.heap.size := Nat.lt_of_lt_of_le hb1 hps.fr.size
       have KB2 := HB1.out.fr hps.fr hb1 HNS.out
       obtain ⟨j0, j1, n0, n1⟩ := kj KB2 hol ho1 hk hv
       have hws : w1.heap.size <= W2.heap.size := hps.fr.size
       clear hps hxx KB2)
     refine ⟨?_, ?_⟩
     .go_keep
     try simp only [Act.put, q1, q2, q3]
     refine rL 18 rfl fun K hK => ?_
     go_simp
     refine hK _ _ ?_
     clear hK K
     try simp only [Act.put, q1, q2, q3]
     refine rL 19 rfl fun K hK => ?_
     go_simp
     refine hK _ _ ?_
     clear hK K
     try simp only [Act.put, q1, q2, q3]
     refine rL 20 rfl fun K hK => ?_
     go_simp
     refine hK _ _ ?_
     clear hK K
     try simp only [Act.put, q1, q2, q3]
     refine rL 21 rfl fun K hK => ?_
     go_simp
     refine hK _ _ ?_
     clear hK K
     try simp only [Act.put, q1, q2, q3]
     refine rL 22 rfl fun K hK => ?_
     go_simp
     refine hK _ _ ?_
     clear hK K
     try simp only [Act.put, q1, q2, q3]
     refine rL 23 rfl fun K hK => ?_
     go_simp
     refine hK _ _ ?_
     clear hK K
     try simp only [Act.put, q1, q2, q3]
     refine till_done (by kernel_rfl) ?_ _
     go_wp2
     refine bodyPost_ret (results_none rfl _ _ _) rfl ?_
     exact HFE.out _ _ _ _ HPS.out
    exact TillAll.nil
   exact TillAll.nil
  exact TillAll.nil
 refine TillAll.cons rfl (fun K hK => ?_) ?_
 .go_simp
  refine hK _ _ ⟨?_, ?_⟩
  .go_keep
  clear hK K
  try simp only [Act.put, q1, q2, q3]
  refine till_ready (rs := [8]) (by kernel_rfl) (by simp) ?_
  refine TillAll.cons rfl (fun K hK => ?_) ?_
  .go_simp
   refine hK _ _ ⟨?_, ?_⟩
   .go_keep
   clear hK K
   try simp only [Act.put, q1, q2, q3]
   refine till_ready (rs := [9]) (by kernel_rfl) (by simp) ?_
   refine TillAll.cons rfl (fun K hK => ?_) ?_
   .go_simp
    go_wp2_with
     (go_at_call 85
      with_reducible refine (callK_int HPS.out ?_ ?_ ?_ hpl hnn hx1 hBw).mono ?_
      .exact bl
      .first | (with_reducible first | exact hnA _ _ | exact hnB _ _ | exact hnC _ _ _ | exact hnD _ _ _ | exact hnE _ _ _ | exact hnF _ _ _) | (refine (HX.out _ ?_ ?_).trans ?_ <;> first | (with_reducible first | exact hnA _ _ | exact hnB _ _ | exact hnC _ _ _ | exact hnD _ _ _ | exact hnE _ _ _ | exact hnF _ _ _) | (simp; done) | (simp; omega) | omega) | (rw [Below.heap_alloc _ _ _ (by omega)]; refine (HX.out _ ?_ ?_).trans ?_ <;> first | (with_reducible first | exact hnA _ _ | exact hnB _ _ | exact hnC _ _ _ | exact hnD _ _ _ | exact hnE _ _ _ | exact hnF _ _ _) | (simp; done) | (simp; omega) | omega)
      .have := HPS.out.fr.size; first | exact Nat.le_refl _ | (simp; done) | (simp; omega) | omega
      rintro e W2 ⟨a2, c2, rfl, hps, hxx⟩
      replace HPS := hid hps
      have HX := hid hxx
      have hbW : b < W2.heap.size := Nat.lt_of_lt_of_le hb1 hps.fr.size
      have KB2 := HB1.out.fr hps.fr hb1 HNS.out
      obtain ⟨j0, j1, n0, n1⟩ := kj KB2 hol ho1 hk hv
      have hws : w1.heap.size <= W2.heap.size := hps.fr.size
      clear hps hxx KB2)
    refine ⟨?_, ?_⟩
    .go_keep
    try simp only [Act.put, q1, q2, q3]
    refine till_ready (rs := [17]) (by kernel_rfl) (by simp) ?_
    refine TillAll.cons rfl (fun K hK => ?_) ?_
    .go_simp
     go_wp2_with
      (go_at_call 85
       with_reducible refine (callV_int HPS.out ?_ ?_ ?_ hpl hnn rfl hv1 hu1 hBw).mono ?_
       .exact bl
       .first | (with_reducible first | exact hnA _ _ | exact hnB _ _ | exact hnC _ _ _ | exact hnD _ _ _ | exact hnE _ _ _ | exact hnF _ _ _) | (refine (HX.out _ ?_ ?_).trans ?_ <;> first | (with_reducible first | exact hnA _ _ | exact hnB _ _ | exact hnC _ _ _ | exact hnD _ _ _ | exact hnE _ _ _ | exact hnF _ _ _) | (simp; done) | (simp; omega) | omega) | (rw [Below.heap_alloc _ _ _ (by omega)]; refine (HX.out _ ?_ ?_).trans ?_ <;> first | (with_reducible first | exact hnA _ _ | exact hnB _ _ | exact hnC _ _ _ | exact hnD _ _ _ | exact hnE _ _ _ | exact hnF _ _ _) | (simp; done) | (simp; omega) | omega)
       .have := HPS.out.fr.size; first | exact Nat.le_refl _ | (simp; done) | (simp; omega) | omega
       rintro e W2 ⟨a2, c2, rfl, hps, hxx⟩
       replace HPS := hid hps
       have HX := hid hxx
       have hbW : b < W2.heap.size := Nat.lt_of_lt_of_le hb1 hps.fr.size
       have KB2 := HB1.out.fr hps.fr hb1 HNS.out
       obtain ⟨j0, j1, n0, n1⟩ := kj KB2 hol ho1 hk hv
       have hws : w1.heap.size <= W2.heap.size := hps.fr.size
       clear hps hxx KB2)
     refine ⟨?_, ?_⟩
     .go_keep
     try simp only [Act.put, q1, q2, q3]
     refine rL 18 rfl fun K hK => ?_
     go_simp
     refine hK _ _ ?_
     clear hK K
     try simp only [Act.put, q1, q2, q3]
     refine rL 19 rfl fun K hK => ?_
     go_simp
     refine hK _ _ ?_
     clear hK K
     try simp only [Act.put, q1, q2, q3]
     refine rL 20 rfl fun K hK => ?_
     go_simp
     refine hK _ _ ?_
     clear hK K
     try simp only [Act.put, q1, q2, q3]
     refine rL 21 rfl fun K hK => ?_
     go_simp
     refine hK _ _ ?_
     clear hK K
     try simp only [Act.put, q1, q2, q3]
     refine rL 22 rfl fun K hK => ?_
     go_simp
     refine hK _ _ ?_
     clear hK K
     try simp only [Act.put, q1, q2, q3]
     refine rL 23 rfl fun K hK => ?_
     go_simp
     refine hK _ _ ?_
     clear hK K
     try simp only [Act.put, q1, q2, q3]
     refine till_done (by kernel_rfl) ?_ _
     go_wp2
     refine bodyPost_ret (results_none rfl _ _ _) rfl ?_
     exact HFE.out _ _ _ _ HPS.out
    exact TillAll.nil
   exact TillAll.nil
  exact TillAll.nil
 exact TillAll.nil
theorem setL_one (us : List Int) (p : Nat) (u : Int) : (us.set p u).map (Value.int .i64) = (us.map (Value.int .i64)).set p (.int .i64 u) := by rw [List.map_set]
theorem own_set1 {B e n g c : Nat} {w : World} {xs : List Value} (h : w.ownsRow B e 1 (.slice (some ⟨g, 0, none⟩) n c) n xs) (p : Nat) (u : Value) (hp : p < n) : (w.setCell ⟨g, p, none⟩ u).ownsRow B e 1 (.slice (some ⟨g, 0, none⟩) n c) n (xs.set p u) := by
 obtain ⟨h1, h2⟩ := h
 refine ⟨by rw [List.length_set]; exact h1, ?_⟩
 rcases h2 with ⟨h2, _⟩ | ⟨g', cap, cur, h2, h3, h4, h5, h6, h7, h8⟩
 .cases h2
 .injection h2 with h2 _ hc
  injection h2 with h2
  injection h2 with h2 _ _
  subst h2 hc
  refine .inr ⟨g, c, cur.setIfInBounds p u, rfl, h3, ?_, h5, h6, by simpa using h7, ?_⟩
  .rw [setCell_eq_setRow w g p cur e (0, 0) u h4]
   exact setRow_heap w g cur _ e (0, 0) h4
  .rw [Array.toList_setIfInBounds, List.take_set, h8]
theorem put_int_there (B b o : Nat) (cs : List Value) (kv vv : Value) (ks us : List Int) (x u : Int) (w : World) (hb : Blk w b cs) (hbl : b < w.heap.size) (hk : cs[o]? = some kv) (hv : cs[o + 1]? = some vv) (hK : w.ownsRow B 3 1 kv ks.length (ks.map (Value.int .i64))) (hV : w.ownsRow B 3 1 vv ks.length (us.map (Value.int .i64))) (hs : ks.Pairwise (· < ·)) (hn : ks.length < 1048576) (hvb : vv.ownBlock ≠ some b) (hkv : ∀ g, kv.ownBlock = some g -> vv.ownBlock ≠ some g) (hx : ks.contains x = true) :
 Calls Tryz.prog 68 #[.pointer (some ⟨b, o, none⟩), .int .i64 x, .int .i64 u] w fun en w' => PutP B b o 3 1 w cs kv vv (putKs ks x) ((putVs ks us x u).map (Value.int .i64)) en w' := by
 have hol : o < cs.length := (List.getElem?_eq_some_iff.1 hk).1
 have ho1 : o + 1 < cs.length := (List.getElem?_eq_some_iff.1 hv).1
 have c0 : w.cell? ⟨b, o, none⟩ = some kv := (hb o hol).1.trans hk
 have c1 : w.cell? ⟨b, o + 1, none⟩ = some vv := (hb (o + 1) ho1).1.trans hv
 have hbin := bin_any B kv ks x w hK hs (by omega)
 have hmx : x ∈ ks := List.contains_iff_mem.1 hx
 have hp := posN_lt hs hmx
 obtain ⟨g, c, hgv, hgc, hgm, hgl⟩ := own_shape hV (by omega)
 have hul : us.length = ks.length := by have := hV.1; rw [List.length_map, Nat.mul_one] at this; exact this
 have hcell : w.cell? ⟨g, posN ks x, none⟩ = some (.int .i64 (us[posN ks x]'(by omega))) := own_cells hV hgv (by rw [List.getElem?_map, List.getElem?_eq_getElem (by omega)]; rfl)
 have hfro : w.frozen? ⟨g, posN ks x, none⟩ = false := own_unfro hV hgv _
 have eK : putKs ks x = ks := by unfold putKs; rw [if_pos hx]
 have eV : putVs ks us x u = us.set (posN ks x) u := by unfold putVs; rw [if_pos hx]
 rw [eK, eV]
 clear eK eV
 obtain ⟨ka, kc, hkf⟩ := formR hK
 generalize us[posN ks x]'(by omega) = y at hcell
 obtain ⟨p, hpp⟩ : ∃ p, p = posN ks x := ⟨_, rfl⟩
 rw [<- hpp] at hbin hp hcell hfro ⊢
 rw [hx] at hbin
 subst hkf
 subst hgv
 have hgb : g ≠ b := fun z => hvb (by rw [z]; rfl)
 have HF : Hid (∀ (w1 : World), Below w.heap.size w w1 -> w1.heap.size = w.heap.size -> ∀ r, PutP B b o 3 1 w cs (.slice ka ks.length kc) (.slice (some ⟨g, 0, none⟩) ks.length c) ks ((us.set p u).map (Value.int .i64)) (.returned r) (w1.setCell ⟨g, p, none⟩ (.int .i64 u))) := hid (fun w1 b1 hz r => by
  have f1 := Fr.setCell w1 g p (.int .i64 u)
  have hb2 : Blk (w1.setCell ⟨g, p, none⟩ (.int .i64 u)) b cs := (hb.below b1 hbl).other hgb
  refine ⟨.slice ka ks.length kc, .slice (some ⟨g, 0, none⟩) ks.length c, r, rfl, ?_, own_fr (own_below hK b1) f1 (fun q hq e => hkv q hq (by rw [e]; rfl)), ?_, ?_, fun q hq => .inl hq, fun q hq => .inl hq, hkv⟩
  .have e1 : cs.set o (.slice ka ks.length kc) = cs := by
    have := List.getElem?_eq_some_iff.1 hk
    obtain ⟨h1, h2⟩ := this
    rw [<- h2]; exact List.set_getElem_self h1
   have e2 : cs.set (o + 1) (.slice (some ⟨g, 0, none⟩) ks.length c) = cs := by
    obtain ⟨h1, h2⟩ := List.getElem?_eq_some_iff.1 hv
    rw [<- h2]; exact List.set_getElem_self h1
   rw [e1, e2]; exact hb2
  .rw [setL_one]; exact own_set1 (own_below hV b1) p _ hp
  .exact (Fr.of_below _ b1).trans (f1.mono (fun q hq => .inr (.inr (by rw [hq]; rfl)))))
 have hpi : (p : Int) < (ks.length : Int) := by omega
 clear hpp hK hV hb hs hkv hvb hmx hx hul hk hv
 go_enter Tryz.func68, Tryz.ntmps68
 go_wp2_with (go_at_call 82; fail)
 refine hbin.mono ?_
 rintro e w1 ⟨rfl, q, hq⟩
 have b1 : Below w.heap.size w w1 := by rw [hq]; exact below_drewNt w q
 have hz1 : w1.heap.size = w.heap.size := by rw [hq]; rfl
 have HG := hid (HF.out w1 b1 hz1)
 have d1 : w1.cell? ⟨b, o + 1, none⟩ = some (.slice (some ⟨g, 0, none⟩) ks.length c) := ct b1 hbl c1
 have d2 : w1.cell? ⟨g, p, none⟩ = some (.int .i64 y) := ct b1 hgl hcell
 have d3 : w1.frozen? ⟨g, p, none⟩ = false := (b1.frozen (p := ⟨g, p, none⟩) hgl).trans hfro
 clear hq hbin HF b1 hz1 c0 c1 hcell hfro
 go_wp2
 refine bodyPost_ret (results_none rfl _ _ _) rfl ?_
 exact HG.out _
theorem put_int (B b o : Nat) (cs : List Value) (kv vv : Value) (ks us : List Int) (x u : Int) (w : World) (hb : Blk w b cs) (hbl : b < w.heap.size) (hk : cs[o]? = some kv) (hv : cs[o + 1]? = some vv) (hK : w.ownsRow B 3 1 kv ks.length (ks.map (Value.int .i64))) (hV : w.ownsRow B 3 1 vv ks.length (us.map (Value.int .i64))) (hs : ks.Pairwise (· < ·)) (hn : ks.length < 1048576) (hkb : kv.ownBlock ≠ some b) (hvb : vv.ownBlock ≠ some b) (hkv : ∀ g, kv.ownBlock = some g -> vv.ownBlock ≠ some g) (hB : B <= w.heap.size) :
 Calls Tryz.prog 68 #[.pointer (some ⟨b, o, none⟩), .int .i64 x, .int .i64 u] w fun en w' => PutP B b o 3 1 w cs kv vv (putKs ks x) ((putVs ks us x u).map (Value.int .i64)) en w' := by
 cases hx : ks.contains x
 .exact put_int_new B b o cs kv vv ks us x u w hb hbl hk hv hK hV hs hn hkb hvb hkv hB hx
 .exact put_int_there B b o cs kv vv ks us x u w hb hbl hk hv hK hV hs hn hvb hkv hx
theorem own_setJ {B e K n g c : Nat} {w : World} {xs : List Value} (h : w.ownsRow B e K (.slice (some ⟨g, 0, none⟩) n c) n xs) (j : Nat) (u : Value) : (w.setCell ⟨g, j, none⟩ u).ownsRow B e K (.slice (some ⟨g, 0, none⟩) n c) n (xs.set j u) := by
 obtain ⟨h1, h2⟩ := h
 refine ⟨by rw [List.length_set]; exact h1, ?_⟩
 rcases h2 with ⟨h2, _⟩ | ⟨g', cap, cur, h2, h3, h4, h5, h6, h7, h8⟩
 .cases h2
 .injection h2 with h2 _ hc
  injection h2 with h2
  injection h2 with h2 _ _
  subst h2 hc
  refine .inr ⟨g, c, cur.setIfInBounds j u, rfl, h3, ?_, h5, h6, by simpa using h7, ?_⟩
  .rw [setCell_eq_setRow w g j cur e (0, 0) u h4]
   exact setRow_heap w g cur _ e (0, 0) h4
  .rw [Array.toList_setIfInBounds, List.take_set, h8]
theorem flat_set2 (a b : Value) : ∀ (us : List (List Value)) (p : Nat), (∀ l ∈ us, l.length = 2) -> p < us.length -> (us.set p [a, b]).flatten = (us.flatten.set (p * 2) a).set (p * 2 + 1) b
 | [], _, _, h => by cases h
 | l :: r, 0, hl, _ => by
   have h2 := hl l List.mem_cons_self
   match l, h2 with
   | [x, y], _ => rfl
 | l :: r, p + 1, hl, h => by
   have h2 := hl l List.mem_cons_self
   match l, h2 with
   | [x, y], _ =>
     rw [List.set_cons_succ, List.flatten_cons, List.flatten_cons, flat_set2 a b r p (fun z hz => hl z (List.mem_cons_of_mem _ hz)) (by simpa using h)]
     rw [show (p + 1) * 2 = p * 2 + 1 + 1 by omega, show p * 2 + 1 + 1 + 1 = (p * 2 + 1) + 1 + 1 by omega]
     rfl
theorem put_vss_there (B b o : Nat) (cs : List Value) (kv vv : Value) (ks : List Int) (us : List (List Value)) (x : Int) (fa ga : Option Addr) (fm fc gm gc : Nat) (w : World) (hb : Blk w b cs) (hbl : b < w.heap.size) (hk : cs[o]? = some kv) (hv : cs[o + 1]? = some vv) (hK : w.ownsRow B 3 1 kv ks.length (ks.map (Value.int .i64))) (hV : w.ownsRow B 155 2 vv ks.length us.flatten) (hul : us.length = ks.length) (hu2 : ∀ l ∈ us, l.length = 2 /\ ∀ z ∈ l, z.oneCell' = true) (hs : ks.Pairwise (· < ·)) (hn : ks.length < 1048576) (hvb : vv.ownBlock ≠ some b) (hkv : ∀ g, kv.ownBlock = some g -> vv.ownBlock ≠ some g) (hx : ks.contains x = true) :
 Calls Tryz.prog 91 #[.pointer (some ⟨b, o, none⟩), .int .i64 x, .agg #[.slice fa fm fc, .slice ga gm gc]] w fun en w' => PutP B b o 155 2 w cs kv vv (putKs ks x) (putVs ks us x [.slice fa fm fc, .slice ga gm gc]).flatten en w' := by
 have hol : o < cs.length := (List.getElem?_eq_some_iff.1 hk).1
 have ho1 : o + 1 < cs.length := (List.getElem?_eq_some_iff.1 hv).1
 have hb0 := below_alloc w (.cells #[.slice fa fm fc, .slice ga gm gc] 155)
 have c0 : (w.alloc (.cells #[.slice fa fm fc, .slice ga gm gc] 155)).cell? ⟨b, o, none⟩ = some kv := (hb0.cell (p := ⟨b, o, none⟩) hbl).trans ((hb o hol).1.trans hk)
 have c1 : w.cell? ⟨b, o + 1, none⟩ = some vv := (hb (o + 1) ho1).1.trans hv
 have hbin := bin_any B kv ks x _ (own_below hK hb0) hs (by omega)
 have hmx : x ∈ ks := List.contains_iff_mem.1 hx
 have hp := posN_lt hs hmx
 obtain ⟨g, c, hgv, hgc, hgm, hgl⟩ := own_shape hV (by omega)
 have hfl : us.flatten.length = ks.length * 2 := hV.1
 obtain ⟨y1, hy1⟩ : ∃ y, us.flatten[posN ks x * 2]? = some y := ⟨_, List.getElem?_eq_getElem (by omega)⟩
 obtain ⟨y2, hy2⟩ : ∃ y, us.flatten[posN ks x * 2 + 1]? = some y := ⟨_, List.getElem?_eq_getElem (by omega)⟩
 have hcell : w.cell? ⟨g, posN ks x * 2, none⟩ = some y1 := own_cells hV hgv hy1
 have hcell2 : w.cell? ⟨g, posN ks x * 2 + 1, none⟩ = some y2 := own_cells hV hgv hy2
 have hfro : w.frozen? ⟨g, posN ks x * 2, none⟩ = false := own_unfro hV hgv _
 have hfro2 : w.frozen? ⟨g, posN ks x * 2 + 1, none⟩ = false := own_unfro hV hgv _
 have eK : putKs ks x = ks := by unfold putKs; rw [if_pos hx]
 have eV : (putVs ks us x [.slice fa fm fc, .slice ga gm gc]).flatten = (us.flatten.set (posN ks x * 2) (.slice fa fm fc)).set (posN ks x * 2 + 1) (.slice ga gm gc) := by unfold putVs; rw [if_pos hx]; exact flat_set2 _ _ us _ (fun l hl => (hu2 l hl).1) (by omega)
 rw [eK, eV]
 clear eK eV hy1 hy2
 obtain ⟨ka, kc, hkf⟩ := formR hK
 obtain ⟨p, hpp⟩ : ∃ p, p = posN ks x := ⟨_, rfl⟩
 rw [<- hpp] at hbin hp hcell hfro hcell2 hfro2 ⊢
 rw [hx] at hbin
 subst hkf
 subst hgv
 have hgb : g ≠ b := fun z => hvb (by rw [z]; rfl)
 have HF : Hid (∀ (w1 : World), Below w.heap.size w w1 -> ∀ r, PutP B b o 155 2 w cs (.slice ka ks.length kc) (.slice (some ⟨g, 0, none⟩) ks.length c) ks ((us.flatten.set (p * 2) (.slice fa fm fc)).set (p * 2 + 1) (.slice ga gm gc)) (.returned r) ((w1.setCell ⟨g, p * 2, none⟩ (.slice fa fm fc)).setCell ⟨g, p * 2 + 1, none⟩ (.slice ga gm gc))) := hid (fun w1 b1 r => by
  have f1 := Fr.setCell w1 g (p * 2) (.slice fa fm fc)
  have f2 := Fr.setCell (w1.setCell ⟨g, p * 2, none⟩ (.slice fa fm fc)) g (p * 2 + 1) (.slice ga gm gc)
  have hb2 : Blk ((w1.setCell ⟨g, p * 2, none⟩ (.slice fa fm fc)).setCell ⟨g, p * 2 + 1, none⟩ (.slice ga gm gc)) b cs := ((hb.below b1 hbl).other hgb).other hgb
  refine ⟨.slice ka ks.length kc, .slice (some ⟨g, 0, none⟩) ks.length c, r, rfl, ?_, own_fr (own_fr (own_below hK b1) f1 (fun q hq e => hkv q hq (by rw [e]; rfl))) f2 (fun q hq e => hkv q hq (by rw [e]; rfl)), ?_, ?_, fun q hq => .inl hq, fun q hq => .inl hq, hkv⟩
  .have e1 : cs.set o (.slice ka ks.length kc) = cs := by
    have := List.getElem?_eq_some_iff.1 hk
    obtain ⟨h1, h2⟩ := this
    rw [<- h2]; exact List.set_getElem_self h1
   have e2 : cs.set (o + 1) (.slice (some ⟨g, 0, none⟩) ks.length c) = cs := by
    obtain ⟨h1, h2⟩ := List.getElem?_eq_some_iff.1 hv
    rw [<- h2]; exact List.set_getElem_self h1
   rw [e1, e2]; exact hb2
  .exact own_setJ (own_setJ (own_below hV b1) _ _) _ _
  .exact ((Fr.of_below _ b1).trans (f1.mono (fun q hq => .inr (.inr (by rw [hq]; rfl))))).trans (f2.mono (fun q hq => .inr (.inr (by rw [hq]; rfl)))))
 have hpi : (p : Int) < (ks.length : Int) := by omega
 have hgw : ¬ w.heap.size = g := by omega
 have hgw2 : ¬ g = w.heap.size := by omega
 have HPB0 := hid (blk_new w [.slice fa fm fc, .slice ga gm gc] 155)
 clear hpp hK hV hb hs hkv hvb hmx hx hul hk hv hu2 hfl
 go_enter Tryz.func91, Tryz.ntmps91
 go_wp2_with (go_at_call 82; fail)
 refine hbin.mono ?_
 rintro e w1 ⟨rfl, q, hq⟩
 have hbq : Below (w.alloc (.cells #[.slice fa fm fc, .slice ga gm gc] 155)).heap.size (w.alloc (.cells #[.slice fa fm fc, .slice ga gm gc] 155)) w1 := by rw [hq]; exact below_drewNt _ q
 have b1 : Below w.heap.size w w1 := hb0.trans (hbq.mono (by simp))
 have HPB := HPB0.out.below hbq (by simp)
 obtain ⟨e0, e1⟩ := kc1 HPB
 have HG := hid (HF.out w1.drew bl)
 have d1 : w1.cell? ⟨b, o + 1, none⟩ = some (.slice (some ⟨g, 0, none⟩) ks.length c) := ct b1 hbl c1
 have d2 : w1.cell? ⟨g, p * 2, none⟩ = some y1 := (b1.cell (p := ⟨g, p * 2, none⟩) hgl).trans hcell
 have d3 : w1.frozen? ⟨g, p * 2, none⟩ = false := (b1.frozen (p := ⟨g, p * 2, none⟩) hgl).trans hfro
 have d4 : w1.cell? ⟨g, p * 2 + 1, none⟩ = some y2 := (b1.cell (p := ⟨g, p * 2 + 1, none⟩) hgl).trans hcell2
 have d5 : w1.frozen? ⟨g, p * 2 + 1, none⟩ = false := (b1.frozen (p := ⟨g, p * 2 + 1, none⟩) hgl).trans hfro2
 clear hq hbin HF b1 c0 c1 hcell hfro hcell2 hfro2 HPB HPB0 hbq hb0
 go_wp2
 go_region
 all_goals
  go_wp2
  refine bodyPost_ret (results_none rfl _ _ _) rfl ?_
  exact HG.out _
theorem put_vss (B b o : Nat) (cs : List Value) (kv vv : Value) (ks : List Int) (us : List (List Value)) (x : Int) (fa ga : Option Addr) (fm fc gm gc : Nat) (w : World) (hb : Blk w b cs) (hbl : b < w.heap.size) (hk : cs[o]? = some kv) (hv : cs[o + 1]? = some vv) (hK : w.ownsRow B 3 1 kv ks.length (ks.map (Value.int .i64))) (hV : w.ownsRow B 155 2 vv ks.length us.flatten) (hul : us.length = ks.length) (hu2 : ∀ l ∈ us, l.length = 2 /\ ∀ z ∈ l, z.oneCell' = true) (hs : ks.Pairwise (· < ·)) (hn : ks.length < 1048576) (hkb : kv.ownBlock ≠ some b) (hvb : vv.ownBlock ≠ some b) (hkv : ∀ g, kv.ownBlock = some g -> vv.ownBlock ≠ some g) (hB : B <= w.heap.size) :
 Calls Tryz.prog 91 #[.pointer (some ⟨b, o, none⟩), .int .i64 x, .agg #[.slice fa fm fc, .slice ga gm gc]] w fun en w' => PutP B b o 155 2 w cs kv vv (putKs ks x) (putVs ks us x [.slice fa fm fc, .slice ga gm gc]).flatten en w' := by
 cases hx : ks.contains x
 .exact put_vss_new B b o cs kv vv ks us x fa ga fm fc gm gc w hb hbl hk hv hK hV hul hu2 hs hn hkb hvb hkv hB hx
 .exact put_vss_there B b o cs kv vv ks us x fa ga fm fc gm gc w hb hbl hk hv hK hV hul hu2 hs hn hvb hkv hx
def behindB (ks : List Int) (k : Int) : Bool := match ks.getLast? with
 | some t => decide (k < t)
 | none => false
theorem behind_any (B b o : Nat) (kv : Value) (ks : List Int) (k : Int) (w : World) (c0 : w.cell? ⟨b, o, none⟩ = some kv) (hK : w.ownsRow B 3 1 kv ks.length (ks.map (Value.int .i64))) (hn : ks.length <= 1048576) :
 Calls Tryz.prog 87 #[.pointer (some ⟨b, o, none⟩), .int .i64 k] w fun e w' => e = .returned (.bool (behindB ks k)) /\ Below w.heap.size w w' := by
 obtain ⟨ka, kc, hkf⟩ := formR hK
 rcases Nat.eq_zero_or_pos ks.length with h0 | hpos
 .have : ks = [] := List.length_eq_zero_iff.1 h0
  subst this
  rw [List.length_nil] at hkf
  subst hkf
  have e1 : behindB [] k = false := rfl
  rw [e1]
  clear e1 hK hn h0
  go_enter Tryz.func87, Tryz.ntmps87
  go_wp2
  go_quiet (fail)
  go_wp2
  refine bodyPost_ret (v := .bool false) (by simp [results, Tryz.results87, go_sem]) rfl ?_
  exact ⟨rfl, below_drewNt w _⟩
 .obtain ⟨g, c, hgv, hgc, hgm, hgl⟩ := own_shape hK hpos
  have hl : ks.getLast? = some (ks[ks.length - 1]'(by omega)) := by rw [List.getLast?_eq_getElem?]; exact List.getElem?_eq_getElem (by omega)
  have hcell : w.cell? ⟨g, ks.length - 1, none⟩ = some (.int .i64 (ks[ks.length - 1]'(by omega))) := own_cells hK hgv (by rw [List.getElem?_map, List.getElem?_eq_getElem (by omega)]; rfl)
  have e1 : behindB ks k = decide (k < ks[ks.length - 1]'(by omega)) := by unfold behindB; rw [hl]
  rw [e1]
  clear e1 hl hkf
  subst hgv
  generalize ks[ks.length - 1]'(by omega) = t at hcell ⊢
  obtain ⟨m, hm⟩ : ∃ m, ks.length = m + 1 := ⟨ks.length - 1, by omega⟩
  rw [hm] at hcell c0 hn
  rw [Nat.add_sub_cancel] at hcell
  have hw1 : IntKind.i64.wrap (((m + 1 : Nat) : Int) - 1) = (m : Int) := by rw [IntKind.wrap_i64]; omega
  have hw2 : IntKind.i64.wrap ((m : Int) + 1 - 1) = (m : Int) := by rw [IntKind.wrap_i64]; omega
  clear hK hpos hm hgc hgm
  go_enter Tryz.func87, Tryz.ntmps87
  go_wp2
  go_quiet (fail)
  go_wp2
  refine bodyPost_ret (v := .bool (decide (k < t))) (by simp [results, Tryz.results87, go_sem]) rfl ?_
  exact ⟨rfl, below_drewNt w _⟩
end Go.Proofs.YtblkgicbimflhaaGreat
