import Derived.Test.YtblkgicbimflhaaGreatQAN
import Derived.Deep.RegionWith
import Derived.Deep.RegionHeld3
namespace Go.Proofs.YtblkgicbimflhaaGreat
open Go.ChangeShapes Go.WideShapes Go.ChangeAt Go.RowKit
set_option linter.unusedVariables false
set_option linter.unusedSimpArgs false
set_option maxRecDepth 100000
set_option maxHeartbeats 16000000
theorem put_end2_vss {B b o n p : Nat} {w w1 : World} {cs : List Value} {kv vv : Value} {ks' : List Int} {xs ys kx vx zs : List Value} {Wp : World} {kv' vv' : Value} (h : PSt B 155 2 n p w1 kv vv xs ys kx vx true true Wp kv' vv') (hw : Below w.heap.size w w1) (hb : Blk w1 b cs) (hbl : b < w.heap.size) (ho1 : o + 1 < cs.length) (hkb : kv.ownBlock ≠ some b) (hvb : vv.ownBlock ≠ some b) (hkl : ks'.length = n + 1) (hke : ks'.map (Value.int .i64) = xs.take (p * 1) ++ kx ++ xs.drop (p * 1)) (hze : zs = ys.take (p * 2) ++ vx ++ ys.drop (p * 2)) (r : Value) :
 PutP B b o 155 2 w cs kv vv ks' zs (.returned r) ((Wp.setCell ⟨b, o, none⟩ kv').setCell ⟨b, o + 1, none⟩ vv') := by
 have hkr := h.kr
 have hvr := h.vr
 have hsz := hw.size
 simp only [if_true] at hkr hvr
 have hb2 : Blk Wp b cs := hb.fr h.fr (by omega) (fun z => by rcases z with z | z; exact hkb z; exact hvb z)
 have n1 : ∀ g, kv'.ownBlock = some g -> g ≠ b := fun g hg e => by
  subst e
  rcases h.kn g hg with z | z
  .exact hkb z
  .omega
 have n2 : ∀ g, vv'.ownBlock = some g -> g ≠ b := fun g hg e => by
  subst e
  rcases h.vn g hg with z | z
  .exact hvb z
  .omega
 have f1 := Fr.setCell Wp b o kv'
 have f2 := Fr.setCell (Wp.setCell ⟨b, o, none⟩ kv') b (o + 1) vv'
 refine ⟨kv', vv', r, rfl, (hb2.set o kv' (by omega)).set (o + 1) vv' (by simpa using ho1), ?_, ?_, ?_, fun g hg => ?_, fun g hg => ?_, h.ds⟩
 .rw [hkl, hke]
  exact own_fr (own_fr hkr f1 (fun g hg e => n1 g hg e)) f2 (fun g hg e => n1 g hg e)
 .rw [hkl, hze]
  exact own_fr (own_fr hvr f1 (fun g hg e => n2 g hg e)) f2 (fun g hg e => n2 g hg e)
 .exact ((((Fr.of_below _ hw).trans (h.fr.mono (fun g z => by rcases z with z | z; exact .inr (.inl z); exact .inr (.inr z)))).trans (f1.mono (fun g z => .inl z))).trans (f2.mono (fun g z => .inl z)))
 .rcases h.kn g hg with z | z
  .exact .inl z
  .exact .inr (by omega)
 .rcases h.vn g hg with z | z
  .exact .inl z
  .exact .inr (by omega)
theorem put_vss_new (B b o : Nat) (cs : List Value) (kv vv : Value) (ks : List Int) (us : List (List Value)) (x : Int) (fa ga : Option Addr) (fm fc gm gc : Nat) (w : World) (hb : Blk w b cs) (hbl : b < w.heap.size) (hk : cs[o]? = some kv) (hv : cs[o + 1]? = some vv) (hK : w.ownsRow B 3 1 kv ks.length (ks.map (Value.int .i64))) (hV : w.ownsRow B 155 2 vv ks.length us.flatten) (hul : us.length = ks.length) (hu2 : ∀ l ∈ us, l.length = 2 /\ ∀ z ∈ l, z.oneCell' = true) (hs : ks.Pairwise (· < ·)) (hn : ks.length < 1048576) (hkb : kv.ownBlock ≠ some b) (hvb : vv.ownBlock ≠ some b) (hkv : ∀ g, kv.ownBlock = some g -> vv.ownBlock ≠ some g) (hB : B <= w.heap.size) (hx : ks.contains x = false) :
 Calls Tryz.prog 91 #[.pointer (some ⟨b, o, none⟩), .int .i64 x, .agg #[.slice fa fm fc, .slice ga gm gc]] w fun en w' => PutP B b o 155 2 w cs kv vv (putKs ks x) (putVs ks us x [.slice fa fm fc, .slice ga gm gc]).flatten en w' := by
 have hol : o < cs.length := (List.getElem?_eq_some_iff.1 hk).1
 have ho1 : o + 1 < cs.length := (List.getElem?_eq_some_iff.1 hv).1
 have hb0 := below_alloc w (.cells #[.slice fa fm fc, .slice ga gm gc] 155)
 have c0 : (w.alloc (.cells #[.slice fa fm fc, .slice ga gm gc] 155)).cell? ⟨b, o, none⟩ = some kv := (hb0.cell (p := ⟨b, o, none⟩) hbl).trans ((hb o hol).1.trans hk)
 have c1 : (w.alloc (.cells #[.slice fa fm fc, .slice ga gm gc] 155)).cell? ⟨b, o + 1, none⟩ = some vv := (hb0.cell (p := ⟨b, o + 1, none⟩) hbl).trans ((hb (o + 1) ho1).1.trans hv)
 have hbin := bin_any B kv ks x _ (own_below hK hb0) hs (by omega)
 have hpl := posN_le ks x
 obtain ⟨ka, kc, hkf⟩ := formR hK
 obtain ⟨va, vc, hvf⟩ := formR hV
 have hKL := fun g hg => (hK.lt g hg).2
 have hVL := fun g hg => (hV.lt g hg).2
 have hfl : ∀ (l : List (List Value)) (j : Nat), (∀ z ∈ l, z.length = 2) -> (l.take j).flatten = l.flatten.take (j * 2) /\ (l.drop j).flatten = l.flatten.drop (j * 2) := fun l => by
  induction l with
  | nil => intro j _; simp
  | cons a r ih =>
    intro j h
    have ha := h a List.mem_cons_self
    cases j with
    | zero => simp
    | succ j =>
      obtain ⟨i1, i2⟩ := ih j (fun z hz => h z (List.mem_cons_of_mem _ hz))
      rw [List.take_succ_cons, List.drop_succ_cons, List.flatten_cons, List.flatten_cons, i1, i2, show (j + 1) * 2 = a.length + j * 2 by rw [ha]; omega, List.take_length_add_append, List.drop_length_add_append]
      exact ⟨rfl, rfl⟩
 have HFIN := hid (fun (w1 Wp : World) (kv' vv' r : Value) (h1 : PSt B 155 2 ks.length (posN ks x) w1 kv vv (ks.map (Value.int .i64)) us.flatten [.int .i64 x] [.slice fa fm fc, .slice ga gm gc] true true Wp kv' vv') (h2 : Below w.heap.size w w1) (h4 : Blk w1 b cs) => put_end2_vss (o := o) (ks' := putKs ks x) (zs := (putVs ks us x [.slice fa fm fc, .slice ga gm gc]).flatten) h1 h2 h4 hbl ho1 hkb hvb (putKs_len ks x hx) (by unfold putKs; rw [if_neg (by rw [hx]; decide)]; simp) (by
  unfold putVs
  rw [if_neg (by rw [hx]; decide), List.flatten_append, List.flatten_append, (hfl us _ (fun z hz => (hu2 z hz).1)).1, (hfl us _ (fun z hz => (hu2 z hz).1)).2]
  simp) r)
 clear hfl
 obtain ⟨p, hp⟩ : ∃ p, p = posN ks x := ⟨_, rfl⟩
 rw [<- hp] at hbin hpl HFIN
 rw [hx] at hbin
 subst hkf hvf
 have hy1 : ∀ z ∈ us.flatten, z.oneCell' = true := fun z hz => by obtain ⟨l, hl, hz2⟩ := List.mem_flatten.1 hz; exact (hu2 l hl).2 z hz2
 clear hp hs hx hu2
 go_enter Tryz.func91, Tryz.ntmps91
 go_wp2_with (go_at_call 82; fail)
 refine hbin.mono ?_
 rintro e w1 ⟨rfl, q, hq⟩
 have hbq : Below (w.alloc (.cells #[.slice fa fm fc, .slice ga gm gc] 155)).heap.size (w.alloc (.cells #[.slice fa fm fc, .slice ga gm gc] 155)) w1 := by rw [hq]; exact below_drewNt _ q
 have b1 : Below w.heap.size w w1 := hb0.trans (hbq.mono (by simp))
 have hz1 : w1.heap.size = w.heap.size + 1 := by rw [hq]; show (w.alloc _).heap.size = _; simp
 have d0 : w1.cell? ⟨b, o, none⟩ = some (.slice ka ks.length kc) := ct hbq (by simp; omega) c0
 have d1 : w1.cell? ⟨b, o + 1, none⟩ = some (.slice va ks.length vc) := ct hbq (by simp; omega) c1
 have HB1 := hid (hb.below b1 hbl)
 have HPB : Hid (Blk w1 w.heap.size [.slice fa fm fc, .slice ga gm gc]) := hid ((blk_new w [.slice fa fm fc, .slice ga gm gc] 155).below hbq (by simp))
 obtain ⟨e0, e1⟩ := kc1 HPB.out
 have hb1 : b < w1.heap.size := by omega
 have hp1 : w.heap.size < w1.heap.size := by omega
 have hnb : ¬ w.heap.size = b := by omega
 have hnb2 : ¬ b = w.heap.size := by omega
 have hBw : B <= w1.heap.size := by omega
 have hnn : ks.length <= 1048576 := by omega
 have HPS : Hid (PSt B 155 2 ks.length p w1 (.slice ka ks.length kc) (.slice va ks.length vc) (ks.map (Value.int .i64)) us.flatten [.int .i64 x] [.slice fa fm fc, .slice ga gm gc] false false w1 (.slice ka ks.length kc) (.slice va ks.length vc)) := hid (⟨Fr.refl _ _, by simp only [Bool.false_eq_true, if_false]; exact ⟨trivial, own_below hK b1⟩, by simp only [Bool.false_eq_true, if_false]; exact ⟨trivial, own_below hV b1⟩, fun g z => .inl z, fun g z => .inl z, fun g z => by have := hKL g z; omega, fun g z => by have := hVL g z; omega, hkv, hkv⟩)
 have HNS : Hid (¬ ((Value.slice ka ks.length kc).ownBlock = some b \/ (Value.slice va ks.length vc).ownBlock = some b)) := hid (fun z => by rcases z with z | z; exact hkb z; exact hvb z)
 have HNP : Hid (¬ ((Value.slice ka ks.length kc).ownBlock = some w.heap.size \/ (Value.slice va ks.length vc).ownBlock = some w.heap.size)) := hid (fun z => by rcases z with z | z; exact absurd (hKL _ z) (by omega); exact absurd (hVL _ z) (by omega))
 have HFE := hid (fun (Wp : World) (kv' vv' r : Value) h1 => HFIN.out w1 Wp kv' vv' r h1 b1 HB1.out)
 have hx1 : ∀ z ∈ ks.map (Value.int .i64), z.oneCell' = true := fun z hz => by obtain ⟨y, _, rfl⟩ := List.mem_map.1 hz; rfl
 have hv1 : ∀ z ∈ ([.slice fa fm fc, .slice ga gm gc] : List Value), z.oneCell' = true := by simp [Value.oneCell']
 clear c0 c1 hK hV hb hKL hVL HFIN hkv hkb hvb b1 hz1 hbq hq hbin hb0 hul
 go_wp2
 refine wp_region_till_drew (S := (fun W => W.cell? ⟨b, o, none⟩ = some (.slice ka ks.length kc) /\ W.cell? ⟨b, o + 1, none⟩ = some (.slice va ks.length vc) /\ W.cell? ⟨w.heap.size, 0, none⟩ = some (.slice fa fm fc) /\ W.cell? ⟨w.heap.size, 1, none⟩ = some (.slice ga gm gc))) (late := [18, 19, 20, 21, 22, 23]) (by kernel_rfl) (by go_keep) (fun hHeld => ?_)
 refine tT 0 rfl hHeld ?_
 try simp only [Act.put, q1, q2, q3]
 refine tT 1 rfl hHeld ?_
 try simp only [Act.put, q1, q2, q3]
 refine tT 2 rfl hHeld ?_
 try simp only [Act.put, q1, q2, q3]
 refine tT 3 rfl hHeld ?_
 try simp only [Act.put, q1, q2, q3]
 refine tT 4 rfl hHeld ?_
 try simp only [Act.put, q1, q2, q3]
 refine till_ld (i := 5) (v := ?_) rfl (Or.inl ⟨by rfl, ?_⟩) hHeld ?_
 rotate_left
 .intro w hSw
  try dsimp only at hSw
  go_simp
  try with_reducible rfl
 try simp only [Act.put, q1, q2, q3]
 refine tT 6 rfl hHeld ?_
 try simp only [Act.put, q1, q2, q3]
 refine tT 7 rfl hHeld ?_
 try simp only [Act.put, q1, q2, q3]
 refine tT 10 rfl hHeld ?_
 try simp only [Act.put, q1, q2, q3]
 refine tT 11 rfl hHeld ?_
 try simp only [Act.put, q1, q2, q3]
 refine tT 12 rfl hHeld ?_
 try simp only [Act.put, q1, q2, q3]
 refine till_ld (i := 13) (v := ?_) rfl (Or.inl ⟨by rfl, ?_⟩) hHeld ?_
 rotate_left
 .intro w hSw
  try dsimp only at hSw
  go_simp
  try with_reducible rfl
 try simp only [Act.put, q1, q2, q3]
 refine tT 14 rfl hHeld ?_
 try simp only [Act.put, q1, q2, q3]
 refine till_ld (i := 15) (v := ?_) rfl (Or.inl ⟨by rfl, ?_⟩) hHeld ?_
 rotate_left
 .intro w hSw
  try dsimp only at hSw
  go_simp
  try with_reducible rfl
 try simp only [Act.put, q1, q2, q3]
 refine till_ready (rs := [8, 16]) (by kernel_rfl) (by simp) ?_
 refine TillAll.cons rfl (fun K hK => ?_) ?_
 .go_simp
  refine hK _ _ ⟨?_, ?_⟩
  .go_keep
  clear hK K
  try simp only [Act.put, q1, q2, q3]
  refine till_ready (rs := [9, 16]) (by kernel_rfl) (by simp) ?_
  refine TillAll.cons rfl (fun K hK => ?_) ?_
  .go_simp
   go_wp2_with
    (go_at_call 85
     with_reducible refine (callK_vss HPS.out ?_ ?_ ?_ hpl hnn hx1 hBw).mono ?_
     .exact bl
     .first | (with_reducible first | exact hnA _ _ | exact hnB _ _ | exact hnC _ _ _ | exact hnD _ _ _ | exact hnE _ _ _ | exact hnF _ _ _) | (refine (HX.out _ ?_ ?_).trans ?_ <;> first | (with_reducible first | exact hnA _ _ | exact hnB _ _ | exact hnC _ _ _ | exact hnD _ _ _ | exact hnE _ _ _ | exact hnF _ _ _) | (simp; done) | (simp; omega) | omega) | (rw [Below.heap_alloc _ _ _ (by omega)]; refine (HX.out _ ?_ ?_).trans ?_ <;> first | (with_reducible first | exact hnA _ _ | exact hnB _ _ | exact hnC _ _ _ | exact hnD _ _ _ | exact hnE _ _ _ | exact hnF _ _ _) | (simp; done) | (simp; omega) | omega)
     .have := HPS.out.fr.size; first | exact Nat.le_refl _ | (simp; done) | (simp; omega) | omega
     rintro e W2 ⟨a2, c2, rfl, hps, hxx⟩
     replace HPS := hid hps
     have HX := hid hxx
     have hbW : b < W2.heap.size := Nat.lt_of_lt_of_le hb1 hps.fr.size
     have hpW : w.heap.size < W2.heap.size := Nat.lt_of_lt_of_le hp1 hps.fr.size
     have KB2 := HB1.out.fr hps.fr hb1 HNS.out
     have KP2 := HPB.out.fr hps.fr hp1 HNP.out
     obtain ⟨j0, j1, n0, n1⟩ := kj KB2 hol ho1 hk hv
     obtain ⟨jp0, jp1⟩ := kc1 KP2
     have hws : w1.heap.size <= W2.heap.size := hps.fr.size
     clear hps hxx KB2 KP2)
   refine ⟨?_, ?_⟩
   .go_keep
   try simp only [Act.put, q1, q2, q3]
   refine till_ready (rs := [16]) (by kernel_rfl) (by simp) ?_
   refine TillAll.cons rfl (fun K hK => ?_) ?_
   .go_simp
    refine hK _ _ ⟨?_, ?_⟩
    .go_keep
    clear hK K
    try simp only [Act.put, q1, q2, q3]
    refine till_ready (rs := [17]) (by kernel_rfl) (by simp) ?_
    refine TillAll.cons rfl (fun K hK => ?_) ?_
    .go_simp
     go_wp2_with
      (go_at_call 105
       with_reducible refine (callV_vss HPS.out ?_ ?_ ?_ hpl hnn rfl hv1 hy1 hBw).mono ?_
       .exact bl
       .first | (with_reducible first | exact hnA _ _ | exact hnB _ _ | exact hnC _ _ _ | exact hnD _ _ _ | exact hnE _ _ _ | exact hnF _ _ _) | (refine (HX.out _ ?_ ?_).trans ?_ <;> first | (with_reducible first | exact hnA _ _ | exact hnB _ _ | exact hnC _ _ _ | exact hnD _ _ _ | exact hnE _ _ _ | exact hnF _ _ _) | (simp; done) | (simp; omega) | omega) | (rw [Below.heap_alloc _ _ _ (by omega)]; refine (HX.out _ ?_ ?_).trans ?_ <;> first | (with_reducible first | exact hnA _ _ | exact hnB _ _ | exact hnC _ _ _ | exact hnD _ _ _ | exact hnE _ _ _ | exact hnF _ _ _) | (simp; done) | (simp; omega) | omega)
       .have := HPS.out.fr.size; first | exact Nat.le_refl _ | (simp; done) | (simp; omega) | omega
       rintro e W2 ⟨a2, c2, rfl, hps, hxx⟩
       replace HPS := hid hps
       have HX := hid hxx
       have hbW : b < W2.heap.size := Nat.lt_of_lt_of_le hb1 hps.fr.size
       have hpW : w.heap.size < W2.heap.size := Nat.lt_of_lt_of_le hp1 hps.fr.size
       have KB2 := HB1.out.fr hps.fr hb1 HNS.out
       have KP2 := HPB.out.fr hps.fr hp1 HNP.out
       obtain ⟨j0, j1, n0, n1⟩ := kj KB2 hol ho1 hk hv
       obtain ⟨jp0, jp1⟩ := kc1 KP2
       have hws : w1.heap.size <= W2.heap.size := hps.fr.size
       clear hps hxx KB2 KP2)
     refine ⟨?_, ?_⟩
     .go_keep
     try simp only [Act.put, q1, q2, q3]
     refine rL 18 rfl fun K hK => ?_
     go_simp
     refine hK _ _ ?_
     clear hK K
     try simp only [Act.put, q1, q2, q3]
     refine rL 19 rfl fun K hK => ?_
     go_simp
     refine hK _ _ ?_
     clear hK K
     try simp only [Act.put, q1, q2, q3]
     refine rL 20 rfl fun K hK => ?_
     go_simp
     refine hK _ _ ?_
     clear hK K
     try simp only [Act.put, q1, q2, q3]
     refine rL 21 rfl fun K hK => ?_
     go_simp
     refine hK _ _ ?_
     clear hK K
     try simp only [Act.put, q1, q2, q3]
     refine rL 22 rfl fun K hK => ?_
     go_simp
     refine hK _ _ ?_
     clear hK K
     try simp only [Act.put, q1, q2, q3]
     refine rL 23 rfl fun K hK => ?_
     go_simp
     refine hK _ _ ?_
     clear hK K
     try simp only [Act.put, q1, q2, q3]
     refine till_done (by kernel_rfl) ?_ _
     go_wp2
     refine bodyPost_ret (results_none rfl _ _ _) rfl ?_
     exact HFE.out _ _ _ _ HPS.out
    exact TillAll.nil
   exact TillAll.nil
  refine TillAll.cons rfl (fun K hK => ?_) ?_
  .go_simp
   refine hK _ _ ⟨?_, ?_⟩
   .go_keep
   clear hK K
   try simp only [Act.put, q1, q2, q3]
   refine till_ready (rs := [9]) (by kernel_rfl) (by simp) ?_
   refine TillAll.cons rfl (fun K hK => ?_) ?_
   .go_simp
    go_wp2_with
     (go_at_call 85
      with_reducible refine (callK_vss HPS.out ?_ ?_ ?_ hpl hnn hx1 hBw).mono ?_
      .exact bl
      .first | (with_reducible first | exact hnA _ _ | exact hnB _ _ | exact hnC _ _ _ | exact hnD _ _ _ | exact hnE _ _ _ | exact hnF _ _ _) | (refine (HX.out _ ?_ ?_).trans ?_ <;> first | (with_reducible first | exact hnA _ _ | exact hnB _ _ | exact hnC _ _ _ | exact hnD _ _ _ | exact hnE _ _ _ | exact hnF _ _ _) | (simp; done) | (simp; omega) | omega) | (rw [Below.heap_alloc _ _ _ (by omega)]; refine (HX.out _ ?_ ?_).trans ?_ <;> first | (with_reducible first | exact hnA _ _ | exact hnB _ _ | exact hnC _ _ _ | exact hnD _ _ _ | exact hnE _ _ _ | exact hnF _ _ _) | (simp; done) | (simp; omega) | omega)
      .have := HPS.out.fr.size; first | exact Nat.le_refl _ | (simp; done) | (simp; omega) | omega
      rintro e W2 ⟨a2, c2, rfl, hps, hxx⟩
      replace HPS := hid hps
      have HX := hid hxx
      have hbW : b < W2.heap.size := Nat.lt_of_lt_of_le hb1 hps.fr.size
      have hpW : w.heap.size < W2.heap.size := Nat.lt_of_lt_of_le hp1 hps.fr.size
      have KB2 := HB1.out.fr hps.fr hb1 HNS.out
      have KP2 := HPB.out.fr hps.fr hp1 HNP.out
      obtain ⟨j0, j1, n0, n1⟩ := kj KB2 hol ho1 hk hv
      obtain ⟨jp0, jp1⟩ := kc1 KP2
      have hws : w1.heap.size <= W2.heap.size := hps.fr.size
      clear hps hxx KB2 KP2)
    refine ⟨?_, ?_⟩
    .go_keep
    try simp only [Act.put, q1, q2, q3]
    refine till_ready (rs := [17]) (by kernel_rfl) (by simp) ?_
    refine TillAll.cons rfl (fun K hK => ?_) ?_
    .go_simp
     go_wp2_with
      (go_at_call 105
       with_reducible refine (callV_vss HPS.out ?_ ?_ ?_ hpl hnn rfl hv1 hy1 hBw).mono ?_
       .exact bl
       .first | (with_reducible first | exact hnA _ _ | exact hnB _ _ | exact hnC _ _ _ | exact hnD _ _ _ | exact hnE _ _ _ | exact hnF _ _ _) | (refine (HX.out _ ?_ ?_).trans ?_ <;> first | (with_reducible first | exact hnA _ _ | exact hnB _ _ | exact hnC _ _ _ | exact hnD _ _ _ | exact hnE _ _ _ | exact hnF _ _ _) | (simp; done) | (simp; omega) | omega) | (rw [Below.heap_alloc _ _ _ (by omega)]; refine (HX.out _ ?_ ?_).trans ?_ <;> first | (with_reducible first | exact hnA _ _ | exact hnB _ _ | exact hnC _ _ _ | exact hnD _ _ _ | exact hnE _ _ _ | exact hnF _ _ _) | (simp; done) | (simp; omega) | omega)
       .have := HPS.out.fr.size; first | exact Nat.le_refl _ | (simp; done) | (simp; omega) | omega
       rintro e W2 ⟨a2, c2, rfl, hps, hxx⟩
       replace HPS := hid hps
       have HX := hid hxx
       have hbW : b < W2.heap.size := Nat.lt_of_lt_of_le hb1 hps.fr.size
       have hpW : w.heap.size < W2.heap.size := Nat.lt_of_lt_of_le hp1 hps.fr.size
       have KB2 := HB1.out.fr hps.fr hb1 HNS.out
       have KP2 := HPB.out.fr hps.fr hp1 HNP.out
       obtain ⟨j0, j1, n0, n1⟩ := kj KB2 hol ho1 hk hv
       obtain ⟨jp0, jp1⟩ := kc1 KP2
       have hws : w1.heap.size <= W2.heap.size := hps.fr.size
       clear hps hxx KB2 KP2)
     refine ⟨?_, ?_⟩
     .go_keep
     try simp only [Act.put, q1, q2, q3]
     refine rL 18 rfl fun K hK => ?_
     go_simp
     refine hK _ _ ?_
     clear hK K
     try simp only [Act.put, q1, q2, q3]
     refine rL 19 rfl fun K hK => ?_
     go_simp
     refine hK _ _ ?_
     clear hK K
     try simp only [Act.put, q1, q2, q3]
     refine rL 20 rfl fun K hK => ?_
     go_simp
     refine hK _ _ ?_
     clear hK K
     try simp only [Act.put, q1, q2, q3]
     refine rL 21 rfl fun K hK => ?_
     go_simp
     refine hK _ _ ?_
     clear hK K
     try simp only [Act.put, q1, q2, q3]
     refine rL 22 rfl fun K hK => ?_
     go_simp
     refine hK _ _ ?_
     clear hK K
     try simp only [Act.put, q1, q2, q3]
     refine rL 23 rfl fun K hK => ?_
     go_simp
     refine hK _ _ ?_
     clear hK K
     try simp only [Act.put, q1, q2, q3]
     refine till_done (by kernel_rfl) ?_ _
     go_wp2
     refine bodyPost_ret (results_none rfl _ _ _) rfl ?_
     exact HFE.out _ _ _ _ HPS.out
    exact TillAll.nil
   exact TillAll.nil
  exact TillAll.nil
 refine TillAll.cons rfl (fun K hK => ?_) ?_
 .go_simp
  refine hK _ _ ⟨?_, ?_⟩
  .go_keep
  clear hK K
  try simp only [Act.put, q1, q2, q3]
  refine till_ready (rs := [8]) (by kernel_rfl) (by simp) ?_
  refine TillAll.cons rfl (fun K hK => ?_) ?_
  .go_simp
   refine hK _ _ ⟨?_, ?_⟩
   .go_keep
   clear hK K
   try simp only [Act.put, q1, q2, q3]
   refine till_ready (rs := [9]) (by kernel_rfl) (by simp) ?_
   refine TillAll.cons rfl (fun K hK => ?_) ?_
   .go_simp
    go_wp2_with
     (go_at_call 85
      with_reducible refine (callK_vss HPS.out ?_ ?_ ?_ hpl hnn hx1 hBw).mono ?_
      .exact bl
      .first | (with_reducible first | exact hnA _ _ | exact hnB _ _ | exact hnC _ _ _ | exact hnD _ _ _ | exact hnE _ _ _ | exact hnF _ _ _) | (refine (HX.out _ ?_ ?_).trans ?_ <;> first | (with_reducible first | exact hnA _ _ | exact hnB _ _ | exact hnC _ _ _ | exact hnD _ _ _ | exact hnE _ _ _ | exact hnF _ _ _) | (simp; done) | (simp; omega) | omega) | (rw [Below.heap_alloc _ _ _ (by omega)]; refine (HX.out _ ?_ ?_).trans ?_ <;> first | (with_reducible first | exact hnA _ _ | exact hnB _ _ | exact hnC _ _ _ | exact hnD _ _ _ | exact hnE _ _ _ | exact hnF _ _ _) | (simp; done) | (simp; omega) | omega)
      .have := HPS.out.fr.size; first | exact Nat.le_refl _ | (simp; done) | (simp; omega) | omega
      rintro e W2 ⟨a2, c2, rfl, hps, hxx⟩
      replace HPS := hid hps
      have HX := hid hxx
      have hbW : b < W2.heap.size := Nat.lt_of_lt_of_le hb1 hps.fr.size
      have hpW : w.heap.size < W2.heap.size := Nat.lt_of_lt_of_le hp1 hps.fr.size
      have KB2 := HB1.out.fr hps.fr hb1 HNS.out
      have KP2 := HPB.out.fr hps.fr hp1 HNP.out
      obtain ⟨j0, j1, n0, n1⟩ := kj KB2 hol ho1 hk hv
      obtain ⟨jp0, jp1⟩ := kc1 KP2
      have hws : w1.heap.size <= W2.heap.size := hps.fr.size
      clear hps hxx KB2 KP2)
    refine ⟨?_, ?_⟩
    .go_keep
    try simp only [Act.put, q1, q2, q3]
    refine till_ready (rs := [17]) (by kernel_rfl) (by simp) ?_
    refine TillAll.cons rfl (fun K hK => ?_) ?_
    .go_simp
     go_wp2_with
      (go_at_call 105
       with_reducible refine (callV_vss HPS.out ?_ ?_ ?_ hpl hnn rfl hv1 hy1 hBw).mono ?_
       .exact bl
       .first | (with_reducible first | exact hnA _ _ | exact hnB _ _ | exact hnC _ _ _ | exact hnD _ _ _ | exact hnE _ _ _ | exact hnF _ _ _) | (refine (HX.out _ ?_ ?_).trans ?_ <;> first | (with_reducible first | exact hnA _ _ | exact hnB _ _ | exact hnC _ _ _ | exact hnD _ _ _ | exact hnE _ _ _ | exact hnF _ _ _) | (simp; done) | (simp; omega) | omega) | (rw [Below.heap_alloc _ _ _ (by omega)]; refine (HX.out _ ?_ ?_).trans ?_ <;> first | (with_reducible first | exact hnA _ _ | exact hnB _ _ | exact hnC _ _ _ | exact hnD _ _ _ | exact hnE _ _ _ | exact hnF _ _ _) | (simp; done) | (simp; omega) | omega)
       .have := HPS.out.fr.size; first | exact Nat.le_refl _ | (simp; done) | (simp; omega) | omega
       rintro e W2 ⟨a2, c2, rfl, hps, hxx⟩
       replace HPS := hid hps
       have HX := hid hxx
       have hbW : b < W2.heap.size := Nat.lt_of_lt_of_le hb1 hps.fr.size
       have hpW : w.heap.size < W2.heap.size := Nat.lt_of_lt_of_le hp1 hps.fr.size
       have KB2 := HB1.out.fr hps.fr hb1 HNS.out
       have KP2 := HPB.out.fr hps.fr hp1 HNP.out
       obtain ⟨j0, j1, n0, n1⟩ := kj KB2 hol ho1 hk hv
       obtain ⟨jp0, jp1⟩ := kc1 KP2
       have hws : w1.heap.size <= W2.heap.size := hps.fr.size
       clear hps hxx KB2 KP2)
     refine ⟨?_, ?_⟩
     .go_keep
     try simp only [Act.put, q1, q2, q3]
     refine rL 18 rfl fun K hK => ?_
     go_simp
     refine hK _ _ ?_
     clear hK K
     try simp only [Act.put, q1, q2, q3]
     refine rL 19 rfl fun K hK => ?_
     go_simp
     refine hK _ _ ?_
     clear hK K
     try simp only [Act.put, q1, q2, q3]
     refine rL 20 rfl fun K hK => ?_
     go_simp
     refine hK _ _ ?_
     clear hK K
     try simp only [Act.put, q1, q2, q3]
     refine rL 21 rfl fun K hK => ?_
     go_simp
     refine hK _ _ ?_
     clear hK K
     try simp only [Act.put, q1, q2, q3]
     refine rL 22 rfl fun K hK => ?_
     go_simp
     refine hK _ _ ?_
     clear hK K
     try simp only [Act.put, q1, q2, q3]
     refine rL 23 rfl fun K hK => ?_
     go_simp
     refine hK _ _ ?_
     clear hK K
     try simp only [Act.put, q1, q2, q3]
     refine till_done (by kernel_rfl) ?_ _
     go_wp2
     refine bodyPost_ret (results_none rfl _ _ _) rfl ?_
     exact HFE.out _ _ _ _ HPS.out
    exact TillAll.nil
   exact TillAll.nil
  exact TillAll.nil
 exact TillAll.nil
theorem callK_ver {B n p : Nat} {w1 : World} {kv vv : Value} {xs ys vx : List Value} {x : Int} {vd : Bool} {Wp W : World} {kv' vv' : Value} {vb : Nat} (h : PSt B 121 2 n p w1 kv vv xs ys [.int .i64 x] vx false vd Wp kv' vv') (hb : Below Wp.heap.size Wp W) (hvk : W.heap[vb]? = some (.cells #[.int .i64 x] 3 (0, 0))) (hvb : w1.heap.size <= vb) (hp : p <= n) (hn : n <= 1048576) (hx1 : ∀ u ∈ xs, u.oneCell' = true) (hB : B <= w1.heap.size) :
 Calls Tryz.prog 85 #[kv, .int .i64 (p : Int), .slice (some ⟨vb, 0, none⟩) 1 1] W fun en W2 => ∃ a c, en = .returned (.slice a (n + 1) c) /\ PSt B 121 2 n p w1 kv vv xs ys [.int .i64 x] vx true vd W2 (.slice a (n + 1) c) vv' /\ ∀ g, w1.heap.size <= g -> g < W.heap.size -> W2.heap[g]? = W.heap[g]? := by
 have hkr := h.kr
 simp only [Bool.false_eq_true, if_false] at hkr
 have hs := h.fr.size
 have hbs := hb.size
 refine (ins_int B n p kv xs [.int .i64 x] vb W (own_below hkr.2 hb) hp hn rfl hvk (by simp [Value.oneCell']) hx1 (fun z => by have := h.kl _ z; omega) (by omega)).mono ?_
 rintro en W2 ⟨a, c, rfl, ho, hg, hf⟩
 have hfr : Fr (fun g => kv.ownBlock = some g) W W2 := Fr.grown hg
 refine ⟨a, c, rfl, ⟨(h.fr.trans (Fr.of_below _ hb)).then hfr (fun g z => .inl (.inl z)), by simpa using ho, ?_, fun g z => ?_, h.vn, h.kl, h.vl, h.dd, fun g z1 z2 => ?_⟩, fun g h1 h2 => hfr.block g h2 (fun z => by have := h.kl _ z; omega)⟩
 .have hvr := h.vr
  cases vd
  .simp only [Bool.false_eq_true, if_false] at hvr ⊢
   exact ⟨hvr.1, own_fr (own_below hvr.2 hb) hfr (fun g z1 z2 => h.dd g z2 z1)⟩
  .simp only [if_true] at hvr ⊢
   refine own_fr (own_below hvr hb) hfr (fun g z1 z2 => ?_)
   rcases h.vn g z1 with y | y
   .exact h.dd g z2 y
   .have := h.kl g z2; omega
 .rcases hf g z with y | y
  .exact .inl y
  .exact .inr (by omega)
 .rcases hf g z1 with y | y
  .rcases h.vn g z2 with q | q
   .exact h.dd g y q
   .have := h.kl g y; omega
  .have hvr := h.vr
   have hlt : g < Wp.heap.size := by
    cases vd
    .simp only [Bool.false_eq_true, if_false] at hvr
     rw [hvr.1] at z2
     exact (hvr.2.lt g z2).2
    .simp only [if_true] at hvr
     exact (hvr.lt g z2).2
   omega
theorem callV_ver {B n p : Nat} {w1 : World} {kv vv : Value} {xs ys kx vx : List Value} {kd : Bool} {Wp W : World} {kv' vv' : Value} {vb : Nat} (h : PSt B 121 2 n p w1 kv vv xs ys kx vx kd false Wp kv' vv') (hb : Below Wp.heap.size Wp W) (hvk : W.heap[vb]? = some (.cells vx.toArray 121 (0, 0))) (hvb : w1.heap.size <= vb) (hp : p <= n) (hn : n <= 1048576) (hvl : vx.length = 2) (hv1 : ∀ u ∈ vx, u.oneCell' = true) (hy1 : ∀ u ∈ ys, u.oneCell' = true) (hB : B <= w1.heap.size) (hpn : p = n) :
 Calls Tryz.prog 104 #[vv, .int .i64 (p : Int), .slice (some ⟨vb, 0, none⟩) 1 1] W fun en W2 => ∃ a c, en = .returned (.slice a (n + 1) c) /\ PSt B 121 2 n p w1 kv vv xs ys kx vx kd true W2 kv' (.slice a (n + 1) c) /\ ∀ g, w1.heap.size <= g -> g < W.heap.size -> W2.heap[g]? = W.heap[g]? := by
 have hvr := h.vr
 simp only [Bool.false_eq_true, if_false] at hvr
 have hs := h.fr.size
 have hbs := hb.size
 subst hpn
 have hyl : ys.length = p * 2 := hvr.2.1
 have hye : ys.take (p * 2) ++ vx ++ ys.drop (p * 2) = ys ++ vx := by rw [List.take_of_length_le (Nat.le_of_eq hyl), List.drop_of_length_le (Nat.le_of_eq hyl), List.append_nil]
 refine (ins_ver_end B p vv ys vx vb W (own_below hvr.2 hb) hn hvl hvk hv1 (by omega)).mono ?_
 rintro en W2 ⟨a, c, rfl, ho, hg, hf⟩
 have hfr : Fr (fun g => vv.ownBlock = some g) W W2 := Fr.grown hg
 refine ⟨a, c, rfl, ⟨(h.fr.trans (Fr.of_below _ hb)).then hfr (fun g z => .inl (.inr z)), ?_, by rw [if_pos rfl, hye]; exact ho, h.kn, fun g z => ?_, h.kl, h.vl, h.dd, fun g z1 z2 => ?_⟩, fun g h1 h2 => hfr.block g h2 (fun z => by have := h.vl _ z; omega)⟩
 .have hkr := h.kr
  cases kd
  .simp only [Bool.false_eq_true, if_false] at hkr ⊢
   exact ⟨hkr.1, own_fr (own_below hkr.2 hb) hfr (fun g z1 z2 => h.dd g z1 z2)⟩
  .simp only [if_true] at hkr ⊢
   refine own_fr (own_below hkr hb) hfr (fun g z1 z2 => ?_)
   rcases h.kn g z1 with y | y
   .exact h.dd g y z2
   .have := h.vl g z2; omega
 .rcases hf g z with y | y
  .exact .inl y
  .exact .inr (by omega)
 .rcases hf g z2 with y | y
  .rcases h.kn g z1 with q | q
   .exact h.dd g q y
   .have := h.vl g y; omega
  .have hkr := h.kr
   have hlt : g < Wp.heap.size := by
    cases kd
    .simp only [Bool.false_eq_true, if_false] at hkr
     rw [hkr.1] at z1
     exact (hkr.2.lt g z1).2
    .simp only [if_true] at hkr
     exact (hkr.lt g z1).2
   omega
theorem put_end2_ver {B b o n p : Nat} {w w1 : World} {cs : List Value} {kv vv : Value} {ks' : List Int} {xs ys kx vx zs : List Value} {Wp : World} {kv' vv' : Value} (h : PSt B 121 2 n p w1 kv vv xs ys kx vx true true Wp kv' vv') (hw : Below w.heap.size w w1) (hb : Blk w1 b cs) (hbl : b < w.heap.size) (ho1 : o + 1 < cs.length) (hkb : kv.ownBlock ≠ some b) (hvb : vv.ownBlock ≠ some b) (hkl : ks'.length = n + 1) (hke : ks'.map (Value.int .i64) = xs.take (p * 1) ++ kx ++ xs.drop (p * 1)) (hze : zs = ys.take (p * 2) ++ vx ++ ys.drop (p * 2)) (r : Value) :
 PutP B b o 121 2 w cs kv vv ks' zs (.returned r) ((Wp.setCell ⟨b, o, none⟩ kv').setCell ⟨b, o + 1, none⟩ vv') := by
 have hkr := h.kr
 have hvr := h.vr
 have hsz := hw.size
 simp only [if_true] at hkr hvr
 have hb2 : Blk Wp b cs := hb.fr h.fr (by omega) (fun z => by rcases z with z | z; exact hkb z; exact hvb z)
 have n1 : ∀ g, kv'.ownBlock = some g -> g ≠ b := fun g hg e => by
  subst e
  rcases h.kn g hg with z | z
  .exact hkb z
  .omega
 have n2 : ∀ g, vv'.ownBlock = some g -> g ≠ b := fun g hg e => by
  subst e
  rcases h.vn g hg with z | z
  .exact hvb z
  .omega
 have f1 := Fr.setCell Wp b o kv'
 have f2 := Fr.setCell (Wp.setCell ⟨b, o, none⟩ kv') b (o + 1) vv'
 refine ⟨kv', vv', r, rfl, (hb2.set o kv' (by omega)).set (o + 1) vv' (by simpa using ho1), ?_, ?_, ?_, fun g hg => ?_, fun g hg => ?_, h.ds⟩
 .rw [hkl, hke]
  exact own_fr (own_fr hkr f1 (fun g hg e => n1 g hg e)) f2 (fun g hg e => n1 g hg e)
 .rw [hkl, hze]
  exact own_fr (own_fr hvr f1 (fun g hg e => n2 g hg e)) f2 (fun g hg e => n2 g hg e)
 .exact ((((Fr.of_below _ hw).trans (h.fr.mono (fun g z => by rcases z with z | z; exact .inr (.inl z); exact .inr (.inr z)))).trans (f1.mono (fun g z => .inl z))).trans (f2.mono (fun g z => .inl z)))
 .rcases h.kn g hg with z | z
  .exact .inl z
  .exact .inr (by omega)
 .rcases h.vn g hg with z | z
  .exact .inl z
  .exact .inr (by omega)
theorem put_ver_new (B b o : Nat) (cs : List Value) (kv vv : Value) (ks : List Int) (us : List (List Value)) (x : Int) (f1 : Int) (f2 : Bool) (w : World) (hb : Blk w b cs) (hbl : b < w.heap.size) (hk : cs[o]? = some kv) (hv : cs[o + 1]? = some vv) (hK : w.ownsRow B 3 1 kv ks.length (ks.map (Value.int .i64))) (hV : w.ownsRow B 121 2 vv ks.length us.flatten) (hul : us.length = ks.length) (hu2 : ∀ l ∈ us, l.length = 2 /\ ∀ z ∈ l, z.oneCell' = true) (hs : ks.Pairwise (· < ·)) (hn : ks.length < 1048576) (hkb : kv.ownBlock ≠ some b) (hvb : vv.ownBlock ≠ some b) (hkv : ∀ g, kv.ownBlock = some g -> vv.ownBlock ≠ some g) (hB : B <= w.heap.size) (hall : ∀ k ∈ ks, k < x) :
 Calls Tryz.prog 90 #[.pointer (some ⟨b, o, none⟩), .int .i64 x, .agg #[.int .i64 f1, .bool f2]] w fun en w' => PutP B b o 121 2 w cs kv vv (putKs ks x) (putVs ks us x [.int .i64 f1, .bool f2]).flatten en w' := by
 have hol : o < cs.length := (List.getElem?_eq_some_iff.1 hk).1
 have ho1 : o + 1 < cs.length := (List.getElem?_eq_some_iff.1 hv).1
 have hb0 := below_alloc w (.cells #[.int .i64 f1, .bool f2] 121)
 have c0 : (w.alloc (.cells #[.int .i64 f1, .bool f2] 121)).cell? ⟨b, o, none⟩ = some kv := (hb0.cell (p := ⟨b, o, none⟩) hbl).trans ((hb o hol).1.trans hk)
 have c1 : (w.alloc (.cells #[.int .i64 f1, .bool f2] 121)).cell? ⟨b, o + 1, none⟩ = some vv := (hb0.cell (p := ⟨b, o + 1, none⟩) hbl).trans ((hb (o + 1) ho1).1.trans hv)
 have hbin := bin_any B kv ks x _ (own_below hK hb0) hs (by omega)
 have hpl := posN_le ks x
 have hpn : posN ks x = ks.length := List.countP_eq_length.2 (fun k hk => by simpa using hall k hk)
 have hx : ks.contains x = false := by
  cases hq : ks.contains x
  .rfl
  .have := hall x (List.contains_iff_mem.1 hq); omega
 obtain ⟨ka, kc, hkf⟩ := formR hK
 obtain ⟨va, vc, hvf⟩ := formR hV
 have hKL := fun g hg => (hK.lt g hg).2
 have hVL := fun g hg => (hV.lt g hg).2
 have hfl : ∀ (l : List (List Value)) (j : Nat), (∀ z ∈ l, z.length = 2) -> (l.take j).flatten = l.flatten.take (j * 2) /\ (l.drop j).flatten = l.flatten.drop (j * 2) := fun l => by
  induction l with
  | nil => intro j _; simp
  | cons a r ih =>
    intro j h
    have ha := h a List.mem_cons_self
    cases j with
    | zero => simp
    | succ j =>
      obtain ⟨i1, i2⟩ := ih j (fun z hz => h z (List.mem_cons_of_mem _ hz))
      rw [List.take_succ_cons, List.drop_succ_cons, List.flatten_cons, List.flatten_cons, i1, i2, show (j + 1) * 2 = a.length + j * 2 by rw [ha]; omega, List.take_length_add_append, List.drop_length_add_append]
      exact ⟨rfl, rfl⟩
 have HFIN := hid (fun (w1 Wp : World) (kv' vv' r : Value) (h1 : PSt B 121 2 ks.length (posN ks x) w1 kv vv (ks.map (Value.int .i64)) us.flatten [.int .i64 x] [.int .i64 f1, .bool f2] true true Wp kv' vv') (h2 : Below w.heap.size w w1) (h4 : Blk w1 b cs) => put_end2_ver (o := o) (ks' := putKs ks x) (zs := (putVs ks us x [.int .i64 f1, .bool f2]).flatten) h1 h2 h4 hbl ho1 hkb hvb (putKs_len ks x hx) (by unfold putKs; rw [if_neg (by rw [hx]; decide)]; simp) (by
  unfold putVs
  rw [if_neg (by rw [hx]; decide), List.flatten_append, List.flatten_append, (hfl us _ (fun z hz => (hu2 z hz).1)).1, (hfl us _ (fun z hz => (hu2 z hz).1)).2]
  simp) r)
 clear hfl
 obtain ⟨p, hp⟩ : ∃ p, p = posN ks x := ⟨_, rfl⟩
 rw [<- hp] at hbin hpl HFIN hpn
 rw [hx] at hbin
 subst hkf hvf
 have hy1 : ∀ z ∈ us.flatten, z.oneCell' = true := fun z hz => by obtain ⟨l, hl, hz2⟩ := List.mem_flatten.1 hz; exact (hu2 l hl).2 z hz2
 have HPN := hid hpn
 clear hp hs hx hu2 hall hpn
 go_enter Tryz.func90, Tryz.ntmps90
 go_wp2_with (go_at_call 82; fail)
 refine hbin.mono ?_
 rintro e w1 ⟨rfl, q, hq⟩
 have hbq : Below (w.alloc (.cells #[.int .i64 f1, .bool f2] 121)).heap.size (w.alloc (.cells #[.int .i64 f1, .bool f2] 121)) w1 := by rw [hq]; exact below_drewNt _ q
 have b1 : Below w.heap.size w w1 := hb0.trans (hbq.mono (by simp))
 have hz1 : w1.heap.size = w.heap.size + 1 := by rw [hq]; show (w.alloc _).heap.size = _; simp
 have d0 : w1.cell? ⟨b, o, none⟩ = some (.slice ka ks.length kc) := ct hbq (by simp; omega) c0
 have d1 : w1.cell? ⟨b, o + 1, none⟩ = some (.slice va ks.length vc) := ct hbq (by simp; omega) c1
 have HB1 := hid (hb.below b1 hbl)
 have HPB : Hid (Blk w1 w.heap.size [.int .i64 f1, .bool f2]) := hid ((blk_new w [.int .i64 f1, .bool f2] 121).below hbq (by simp))
 obtain ⟨e0, e1⟩ := kc1 HPB.out
 have hb1 : b < w1.heap.size := by omega
 have hp1 : w.heap.size < w1.heap.size := by omega
 have hnb : ¬ w.heap.size = b := by omega
 have hnb2 : ¬ b = w.heap.size := by omega
 have hBw : B <= w1.heap.size := by omega
 have hnn : ks.length <= 1048576 := by omega
 have HPS : Hid (PSt B 121 2 ks.length p w1 (.slice ka ks.length kc) (.slice va ks.length vc) (ks.map (Value.int .i64)) us.flatten [.int .i64 x] [.int .i64 f1, .bool f2] false false w1 (.slice ka ks.length kc) (.slice va ks.length vc)) := hid (⟨Fr.refl _ _, by simp only [Bool.false_eq_true, if_false]; exact ⟨trivial, own_below hK b1⟩, by simp only [Bool.false_eq_true, if_false]; exact ⟨trivial, own_below hV b1⟩, fun g z => .inl z, fun g z => .inl z, fun g z => by have := hKL g z; omega, fun g z => by have := hVL g z; omega, hkv, hkv⟩)
 have HNS : Hid (¬ ((Value.slice ka ks.length kc).ownBlock = some b \/ (Value.slice va ks.length vc).ownBlock = some b)) := hid (fun z => by rcases z with z | z; exact hkb z; exact hvb z)
 have HNP : Hid (¬ ((Value.slice ka ks.length kc).ownBlock = some w.heap.size \/ (Value.slice va ks.length vc).ownBlock = some w.heap.size)) := hid (fun z => by rcases z with z | z; exact absurd (hKL _ z) (by omega); exact absurd (hVL _ z) (by omega))
 have HFE := hid (fun (Wp : World) (kv' vv' r : Value) h1 => HFIN.out w1 Wp kv' vv' r h1 b1 HB1.out)
 have hx1 : ∀ z ∈ ks.map (Value.int .i64), z.oneCell' = true := fun z hz => by obtain ⟨y, _, rfl⟩ := List.mem_map.1 hz; rfl
 have hv1 : ∀ z ∈ ([.int .i64 f1, .bool f2] : List Value), z.oneCell' = true := by simp [Value.oneCell']
 clear c0 c1 hK hV hb hKL hVL HFIN hkv hkb hvb b1 hz1 hbq hq hbin hb0 hul
 go_wp2
 refine wp_region_till_drew (S := (fun W => W.cell? ⟨b, o, none⟩ = some (.slice ka ks.length kc) /\ W.cell? ⟨b, o + 1, none⟩ = some (.slice va ks.length vc) /\ W.cell? ⟨w.heap.size, 0, none⟩ = some (.int .i64 f1) /\ W.cell? ⟨w.heap.size, 1, none⟩ = some (.bool f2))) (late := [18, 19, 20, 21, 22, 23]) (by kernel_rfl) (by go_keep) (fun hHeld => ?_)
 refine tT 0 rfl hHeld ?_
 try simp only [Act.put, q1, q2, q3]
 refine tT 1 rfl hHeld ?_
 try simp only [Act.put, q1, q2, q3]
 refine tT 2 rfl hHeld ?_
 try simp only [Act.put, q1, q2, q3]
 refine tT 3 rfl hHeld ?_
 try simp only [Act.put, q1, q2, q3]
 refine tT 4 rfl hHeld ?_
 try simp only [Act.put, q1, q2, q3]
 refine till_ld (i := 5) (v := ?_) rfl (Or.inl ⟨by rfl, ?_⟩) hHeld ?_
 rotate_left
 .intro w hSw
  try dsimp only at hSw
  go_simp
  try with_reducible rfl
 try simp only [Act.put, q1, q2, q3]
 refine tT 6 rfl hHeld ?_
 try simp only [Act.put, q1, q2, q3]
 refine tT 7 rfl hHeld ?_
 try simp only [Act.put, q1, q2, q3]
 refine tT 10 rfl hHeld ?_
 try simp only [Act.put, q1, q2, q3]
 refine tT 11 rfl hHeld ?_
 try simp only [Act.put, q1, q2, q3]
 refine tT 12 rfl hHeld ?_
 try simp only [Act.put, q1, q2, q3]
 refine till_ld (i := 13) (v := ?_) rfl (Or.inl ⟨by rfl, ?_⟩) hHeld ?_
 rotate_left
 .intro w hSw
  try dsimp only at hSw
  go_simp
  try with_reducible rfl
 try simp only [Act.put, q1, q2, q3]
 refine tT 14 rfl hHeld ?_
 try simp only [Act.put, q1, q2, q3]
 refine till_ld (i := 15) (v := ?_) rfl (Or.inl ⟨by rfl, ?_⟩) hHeld ?_
 rotate_left
 .intro w hSw
  try dsimp only at hSw
  go_simp
  try with_reducible rfl
 try simp only [Act.put, q1, q2, q3]
 refine till_ready (rs := [8, 16]) (by kernel_rfl) (by simp) ?_
 refine TillAll.cons rfl (fun K hK => ?_) ?_
 .go_simp
  refine hK _ _ ⟨?_, ?_⟩
  .go_keep
  clear hK K
  try simp only [Act.put, q1, q2, q3]
  refine till_ready (rs := [9, 16]) (by kernel_rfl) (by simp) ?_
  refine TillAll.cons rfl (fun K hK => ?_) ?_
  .go_simp
   go_wp2_with
    (go_at_call 85
     with_reducible refine (callK_ver HPS.out ?_ ?_ ?_ hpl hnn hx1 hBw).mono ?_
     .exact bl
     .first | (with_reducible first | exact hnA _ _ | exact hnB _ _ | exact hnC _ _ _ | exact hnD _ _ _ | exact hnE _ _ _ | exact hnF _ _ _) | (refine (HX.out _ ?_ ?_).trans ?_ <;> first | (with_reducible first | exact hnA _ _ | exact hnB _ _ | exact hnC _ _ _ | exact hnD _ _ _ | exact hnE _ _ _ | exact hnF _ _ _) | (simp; done) | (simp; omega) | omega) | (rw [Below.heap_alloc _ _ _ (by omega)]; refine (HX.out _ ?_ ?_).trans ?_ <;> first | (with_reducible first | exact hnA _ _ | exact hnB _ _ | exact hnC _ _ _ | exact hnD _ _ _ | exact hnE _ _ _ | exact hnF _ _ _) | (simp; done) | (simp; omega) | omega)
     .have := HPS.out.fr.size; first | exact Nat.le_refl _ | (simp; done) | (simp; omega) | omega
     rintro e W2 ⟨a2, c2, rfl, hps, hxx⟩
     replace HPS := hid hps
     have HX := hid hxx
     have hbW : b < W2.heap.size := Nat.lt_of_lt_of_le hb1 hps.fr.size
     have hpW : w.heap.size < W2.heap.size := Nat.lt_of_lt_of_le hp1 hps.fr.size
     have KB2 := HB1.out.fr hps.fr hb1 HNS.out
     have KP2 := HPB.out.fr hps.fr hp1 HNP.out
     obtain ⟨j0, j1, n0, n1⟩ := kj KB2 hol ho1 hk hv
     obtain ⟨jp0, jp1⟩ := kc1 KP2
     have hws : w1.heap.size <= W2.heap.size := hps.fr.size
     clear hps hxx KB2 KP2)
   refine ⟨?_, ?_⟩
   .go_keep
   try simp only [Act.put, q1, q2, q3]
   refine till_ready (rs := [16]) (by kernel_rfl) (by simp) ?_
   refine TillAll.cons rfl (fun K hK => ?_) ?_
   .go_simp
    refine hK _ _ ⟨?_, ?_⟩
    .go_keep
    clear hK K
    try simp only [Act.put, q1, q2, q3]
    refine till_ready (rs := [17]) (by kernel_rfl) (by simp) ?_
    refine TillAll.cons rfl (fun K hK => ?_) ?_
    .go_simp
     go_wp2_with
      (go_at_call 104
       with_reducible refine (callV_ver HPS.out ?_ ?_ ?_ hpl hnn rfl hv1 hy1 hBw HPN.out).mono ?_
       .exact bl
       .first | (with_reducible first | exact hnA _ _ | exact hnB _ _ | exact hnC _ _ _ | exact hnD _ _ _ | exact hnE _ _ _ | exact hnF _ _ _) | (refine (HX.out _ ?_ ?_).trans ?_ <;> first | (with_reducible first | exact hnA _ _ | exact hnB _ _ | exact hnC _ _ _ | exact hnD _ _ _ | exact hnE _ _ _ | exact hnF _ _ _) | (simp; done) | (simp; omega) | omega) | (rw [Below.heap_alloc _ _ _ (by omega)]; refine (HX.out _ ?_ ?_).trans ?_ <;> first | (with_reducible first | exact hnA _ _ | exact hnB _ _ | exact hnC _ _ _ | exact hnD _ _ _ | exact hnE _ _ _ | exact hnF _ _ _) | (simp; done) | (simp; omega) | omega)
       .have := HPS.out.fr.size; first | exact Nat.le_refl _ | (simp; done) | (simp; omega) | omega
       rintro e W2 ⟨a2, c2, rfl, hps, hxx⟩
       replace HPS := hid hps
       have HX := hid hxx
       have hbW : b < W2.heap.size := Nat.lt_of_lt_of_le hb1 hps.fr.size
       have hpW : w.heap.size < W2.heap.size := Nat.lt_of_lt_of_le hp1 hps.fr.size
       have KB2 := HB1.out.fr hps.fr hb1 HNS.out
       have KP2 := HPB.out.fr hps.fr hp1 HNP.out
       obtain ⟨j0, j1, n0, n1⟩ := kj KB2 hol ho1 hk hv
       obtain ⟨jp0, jp1⟩ := kc1 KP2
       have hws : w1.heap.size <= W2.heap.size := hps.fr.size
       clear hps hxx KB2 KP2)
     refine ⟨?_, ?_⟩
     .go_keep
     try simp only [Act.put, q1, q2, q3]
     refine rL 18 rfl fun K hK => ?_
     go_simp
     refine hK _ _ ?_
     clear hK K
     try simp only [Act.put, q1, q2, q3]
     refine rL 19 rfl fun K hK => ?_
     go_simp
     refine hK _ _ ?_
     clear hK K
     try simp only [Act.put, q1, q2, q3]
     refine rL 20 rfl fun K hK => ?_
     go_simp
     refine hK _ _ ?_
     clear hK K
     try simp only [Act.put, q1, q2, q3]
     refine rL 21 rfl fun K hK => ?_
     go_simp
     refine hK _ _ ?_
     clear hK K
     try simp only [Act.put, q1, q2, q3]
     refine rL 22 rfl fun K hK => ?_
     go_simp
     refine hK _ _ ?_
     clear hK K
     try simp only [Act.put, q1, q2, q3]
     refine rL 23 rfl fun K hK => ?_
     go_simp
     refine hK _ _ ?_
     clear hK K
     try simp only [Act.put, q1, q2, q3]
     refine till_done (by kernel_rfl) ?_ _
     go_wp2
     refine bodyPost_ret (results_none rfl _ _ _) rfl ?_
     exact HFE.out _ _ _ _ HPS.out
    exact TillAll.nil
   exact TillAll.nil
  refine TillAll.cons rfl (fun K hK => ?_) ?_
  .go_simp
   refine hK _ _ ⟨?_, ?_⟩
   .go_keep
   clear hK K
   try simp only [Act.put, q1, q2, q3]
   refine till_ready (rs := [9]) (by kernel_rfl) (by simp) ?_
   refine TillAll.cons rfl (fun K hK => ?_) ?_
   .go_simp
    go_wp2_with
     (go_at_call 85
      with_reducible refine (callK_ver HPS.out ?_ ?_ ?_ hpl hnn hx1 hBw).mono ?_
      .exact bl
      .first | (with_reducible first | exact hnA _ _ | exact hnB _ _ | exact hnC _ _ _ | exact hnD _ _ _ | exact hnE _ _ _ | exact hnF _ _ _) | (refine (HX.out _ ?_ ?_).trans ?_ <;> first | (with_reducible first | exact hnA _ _ | exact hnB _ _ | exact hnC _ _ _ | exact hnD _ _ _ | exact hnE _ _ _ | exact hnF _ _ _) | (simp; done) | (simp; omega) | omega) | (rw [Below.heap_alloc _ _ _ (by omega)]; refine (HX.out _ ?_ ?_).trans ?_ <;> first | (with_reducible first | exact hnA _ _ | exact hnB _ _ | exact hnC _ _ _ | exact hnD _ _ _ | exact hnE _ _ _ | exact hnF _ _ _) | (simp; done) | (simp; omega) | omega)
      .have := HPS.out.fr.size; first | exact Nat.le_refl _ | (simp; done) | (simp; omega) | omega
      rintro e W2 ⟨a2, c2, rfl, hps, hxx⟩
      replace HPS := hid hps
      have HX := hid hxx
      have hbW : b < W2.heap.size := Nat.lt_of_lt_of_le hb1 hps.fr.size
      have hpW : w.heap.size < W2.heap.size := Nat.lt_of_lt_of_le hp1 hps.fr.size
      have KB2 := HB1.out.fr hps.fr hb1 HNS.out
      have KP2 := HPB.out.fr hps.fr hp1 HNP.out
      obtain ⟨j0, j1, n0, n1⟩ := kj KB2 hol ho1 hk hv
      obtain ⟨jp0, jp1⟩ := kc1 KP2
      have hws : w1.heap.size <= W2.heap.size := hps.fr.size
      clear hps hxx KB2 KP2)
    refine ⟨?_, ?_⟩
    .go_keep
    try simp only [Act.put, q1, q2, q3]
    refine till_ready (rs := [17]) (by kernel_rfl) (by simp) ?_
    refine TillAll.cons rfl (fun K hK => ?_) ?_
    .go_simp
     go_wp2_with
      (go_at_call 104
       with_reducible refine (callV_ver HPS.out ?_ ?_ ?_ hpl hnn rfl hv1 hy1 hBw HPN.out).mono ?_
       .exact bl
       .first | (with_reducible first | exact hnA _ _ | exact hnB _ _ | exact hnC _ _ _ | exact hnD _ _ _ | exact hnE _ _ _ | exact hnF _ _ _) | (refine (HX.out _ ?_ ?_).trans ?_ <;> first | (with_reducible first | exact hnA _ _ | exact hnB _ _ | exact hnC _ _ _ | exact hnD _ _ _ | exact hnE _ _ _ | exact hnF _ _ _) | (simp; done) | (simp; omega) | omega) | (rw [Below.heap_alloc _ _ _ (by omega)]; refine (HX.out _ ?_ ?_).trans ?_ <;> first | (with_reducible first | exact hnA _ _ | exact hnB _ _ | exact hnC _ _ _ | exact hnD _ _ _ | exact hnE _ _ _ | exact hnF _ _ _) | (simp; done) | (simp; omega) | omega)
       .have := HPS.out.fr.size; first | exact Nat.le_refl _ | (simp; done) | (simp; omega) | omega
       rintro e W2 ⟨a2, c2, rfl, hps, hxx⟩
       replace HPS := hid hps
       have HX := hid hxx
       have hbW : b < W2.heap.size := Nat.lt_of_lt_of_le hb1 hps.fr.size
       have hpW : w.heap.size < W2.heap.size := Nat.lt_of_lt_of_le hp1 hps.fr.size
       have KB2 := HB1.out.fr hps.fr hb1 HNS.out
       have KP2 := HPB.out.fr hps.fr hp1 HNP.out
       obtain ⟨j0, j1, n0, n1⟩ := kj KB2 hol ho1 hk hv
       obtain ⟨jp0, jp1⟩ := kc1 KP2
       have hws : w1.heap.size <= W2.heap.size := hps.fr.size
       clear hps hxx KB2 KP2)
     refine ⟨?_, ?_⟩
     .go_keep
     try simp only [Act.put, q1, q2, q3]
     refine rL 18 rfl fun K hK => ?_
     go_simp
     refine hK _ _ ?_
     clear hK K
     try simp only [Act.put, q1, q2, q3]
     refine rL 19 rfl fun K hK => ?_
     go_simp
     refine hK _ _ ?_
     clear hK K
     try simp only [Act.put, q1, q2, q3]
     refine rL 20 rfl fun K hK => ?_
     go_simp
     refine hK _ _ ?_
     clear hK K
     try simp only [Act.put, q1, q2, q3]
     refine rL 21 rfl fun K hK => ?_
     go_simp
     refine hK _ _ ?_
     clear hK K
     try simp only [Act.put, q1, q2, q3]
     refine rL 22 rfl fun K hK => ?_
     go_simp
     refine hK _ _ ?_
     clear hK K
     try simp only [Act.put, q1, q2, q3]
     refine rL 23 rfl fun K hK => ?_
     go_simp
     refine hK _ _ ?_
     clear hK K
     try simp only [Act.put, q1, q2, q3]
     refine till_done (by kernel_rfl) ?_ _
     go_wp2
     refine bodyPost_ret (results_none rfl _ _ _) rfl ?_
     exact HFE.out _ _ _ _ HPS.out
    exact TillAll.nil
   exact TillAll.nil
  exact TillAll.nil
 refine TillAll.cons rfl (fun K hK => ?_) ?_
 .go_simp
  refine hK _ _ ⟨?_, ?_⟩
  .go_keep
  clear hK K
  try simp only [Act.put, q1, q2, q3]
  refine till_ready (rs := [8]) (by kernel_rfl) (by simp) ?_
  refine TillAll.cons rfl (fun K hK => ?_) ?_
  .go_simp
   refine hK _ _ ⟨?_, ?_⟩
   .go_keep
   clear hK K
   try simp only [Act.put, q1, q2, q3]
   refine till_ready (rs := [9]) (by kernel_rfl) (by simp) ?_
   refine TillAll.cons rfl (fun K hK => ?_) ?_
   .go_simp
    go_wp2_with
     (go_at_call 85
      with_reducible refine (callK_ver HPS.out ?_ ?_ ?_ hpl hnn hx1 hBw).mono ?_
      .exact bl
      .first | (with_reducible first | exact hnA _ _ | exact hnB _ _ | exact hnC _ _ _ | exact hnD _ _ _ | exact hnE _ _ _ | exact hnF _ _ _) | (refine (HX.out _ ?_ ?_).trans ?_ <;> first | (with_reducible first | exact hnA _ _ | exact hnB _ _ | exact hnC _ _ _ | exact hnD _ _ _ | exact hnE _ _ _ | exact hnF _ _ _) | (simp; done) | (simp; omega) | omega) | (rw [Below.heap_alloc _ _ _ (by omega)]; refine (HX.out _ ?_ ?_).trans ?_ <;> first | (with_reducible first | exact hnA _ _ | exact hnB _ _ | exact hnC _ _ _ | exact hnD _ _ _ | exact hnE _ _ _ | exact hnF _ _ _) | (simp; done) | (simp; omega) | omega)
      .have := HPS.out.fr.size; first | exact Nat.le_refl _ | (simp; done) | (simp; omega) | omega
      rintro e W2 ⟨a2, c2, rfl, hps, hxx⟩
      replace HPS := hid hps
      have HX := hid hxx
      have hbW : b < W2.heap.size := Nat.lt_of_lt_of_le hb1 hps.fr.size
      have hpW : w.heap.size < W2.heap.size := Nat.lt_of_lt_of_le hp1 hps.fr.size
      have KB2 := HB1.out.fr hps.fr hb1 HNS.out
      have KP2 := HPB.out.fr hps.fr hp1 HNP.out
      obtain ⟨j0, j1, n0, n1⟩ := kj KB2 hol ho1 hk hv
      obtain ⟨jp0, jp1⟩ := kc1 KP2
      have hws : w1.heap.size <= W2.heap.size := hps.fr.size
      clear hps hxx KB2 KP2)
    refine ⟨?_, ?_⟩
    .go_keep
    try simp only [Act.put, q1, q2, q3]
    refine till_ready (rs := [17]) (by kernel_rfl) (by simp) ?_
    refine TillAll.cons rfl (fun K hK => ?_) ?_
    .go_simp
     go_wp2_with
      (go_at_call 104
       with_reducible refine (callV_ver HPS.out ?_ ?_ ?_ hpl hnn rfl hv1 hy1 hBw HPN.out).mono ?_
       .exact bl
       .first | (with_reducible first | exact hnA _ _ | exact hnB _ _ | exact hnC _ _ _ | exact hnD _ _ _ | exact hnE _ _ _ | exact hnF _ _ _) | (refine (HX.out _ ?_ ?_).trans ?_ <;> first | (with_reducible first | exact hnA _ _ | exact hnB _ _ | exact hnC _ _ _ | exact hnD _ _ _ | exact hnE _ _ _ | exact hnF _ _ _) | (simp; done) | (simp; omega) | omega) | (rw [Below.heap_alloc _ _ _ (by omega)]; refine (HX.out _ ?_ ?_).trans ?_ <;> first | (with_reducible first | exact hnA _ _ | exact hnB _ _ | exact hnC _ _ _ | exact hnD _ _ _ | exact hnE _ _ _ | exact hnF _ _ _) | (simp; done) | (simp; omega) | omega)
       .have := HPS.out.fr.size; first | exact Nat.le_refl _ | (simp; done) | (simp; omega) | omega
       rintro e W2 ⟨a2, c2, rfl, hps, hxx⟩
       replace HPS := hid hps
       have HX := hid hxx
       have hbW : b < W2.heap.size := Nat.lt_of_lt_of_le hb1 hps.fr.size
       have hpW : w.heap.size < W2.heap.size := Nat.lt_of_lt_of_le hp1 hps.fr.size
       have KB2 := HB1.out.fr hps.fr hb1 HNS.out
       have KP2 := HPB.out.fr hps.fr hp1 HNP.out
       obtain ⟨j0, j1, n0, n1⟩ := kj KB2 hol ho1 hk hv
       obtain ⟨jp0, jp1⟩ := kc1 KP2
       have hws : w1.heap.size <= W2.heap.size := hps.fr.size
       clear hps hxx KB2 KP2)
     refine ⟨?_, ?_⟩
     .go_keep
     try simp only [Act.put, q1, q2, q3]
     refine rL 18 rfl fun K hK => ?_
     go_simp
     refine hK _ _ ?_
     clear hK K
     try simp only [Act.put, q1, q2, q3]
     refine rL 19 rfl fun K hK => ?_
     go_simp
     refine hK _ _ ?_
     clear hK K
     try simp only [Act.put, q1, q2, q3]
     refine rL 20 rfl fun K hK => ?_
     go_simp
     refine hK _ _ ?_
     clear hK K
     try simp only [Act.put, q1, q2, q3]
     refine rL 21 rfl fun K hK => ?_
     go_simp
     refine hK _ _ ?_
     clear hK K
     try simp only [Act.put, q1, q2, q3]
     refine rL 22 rfl fun K hK => ?_
     go_simp
     refine hK _ _ ?_
     clear hK K
     try simp only [Act.put, q1, q2, q3]
     refine rL 23 rfl fun K hK => ?_
     go_simp
     refine hK _ _ ?_
     clear hK K
     try simp only [Act.put, q1, q2, q3]
     refine till_done (by kernel_rfl) ?_ _
     go_wp2
     refine bodyPost_ret (results_none rfl _ _ _) rfl ?_
     exact HFE.out _ _ _ _ HPS.out
    exact TillAll.nil
   exact TillAll.nil
  exact TillAll.nil
 exact TillAll.nil
theorem put_int_new (B b o : Nat) (cs : List Value) (kv vv : Value) (ks us : List Int) (x u : Int) (w : World) (hb : Blk w b cs) (hbl : b < w.heap.size) (hk : cs[o]? = some kv) (hv : cs[o + 1]? = some vv) (hK : w.ownsRow B 3 1 kv ks.length (ks.map (Value.int .i64))) (hV : w.ownsRow B 3 1 vv ks.length (us.map (Value.int .i64))) (hs : ks.Pairwise (· < ·)) (hn : ks.length < 1048576) (hkb : kv.ownBlock ≠ some b) (hvb : vv.ownBlock ≠ some b) (hkv : ∀ g, kv.ownBlock = some g -> vv.ownBlock ≠ some g) (hB : B <= w.heap.size) (hx : ks.contains x = false) :
 Calls Tryz.prog 68 #[.pointer (some ⟨b, o, none⟩), .int .i64 x, .int .i64 u] w fun en w' => PutP B b o 3 1 w cs kv vv (putKs ks x) ((putVs ks us x u).map (Value.int .i64)) en w' := by
 have hol : o < cs.length := (List.getElem?_eq_some_iff.1 hk).1
 have ho1 : o + 1 < cs.length := (List.getElem?_eq_some_iff.1 hv).1
 have c0 : w.cell? ⟨b, o, none⟩ = some kv := (hb o hol).1.trans hk
 have c1 : w.cell? ⟨b, o + 1, none⟩ = some vv := (hb (o + 1) ho1).1.trans hv
 have hbin := bin_any B kv ks x w hK hs (by omega)
 have hpl := posN_le ks x
 obtain ⟨ka, kc, hkf⟩ := formR hK
 obtain ⟨va, vc, hvf⟩ := formR hV
 have hKL := fun g hg => (hK.lt g hg).2
 have hVL := fun g hg => (hV.lt g hg).2
 have HFIN := hid (fun (w1 Wp : World) (kv' vv' r : Value) (h1 : PSt B 3 1 ks.length (posN ks x) w1 kv vv (ks.map (Value.int .i64)) (us.map (Value.int .i64)) [.int .i64 x] [.int .i64 u] true true Wp kv' vv') (h2 : Below w.heap.size w w1) (h3 : w1.heap.size = w.heap.size) (h4 : Blk w1 b cs) => put_end_int (o := o) (ks' := putKs ks x) (zs := (putVs ks us x u).map (Value.int .i64)) h1 h2 h3 h4 hbl ho1 hkb hvb (putKs_len ks x hx) (by unfold putKs; rw [if_neg (by rw [hx]; decide)]; simp) (by unfold putVs; rw [if_neg (by rw [hx]; decide)]; simp) r)
 obtain ⟨p, hp⟩ : ∃ p, p = posN ks x := ⟨_, rfl⟩
 rw [<- hp] at hbin hpl HFIN
 rw [hx] at hbin
 subst hkf hvf
 clear hp hs hx
 go_enter Tryz.func68, Tryz.ntmps68
 go_wp2_with (go_at_call 82; fail)
 refine hbin.mono ?_
 rintro e w1 ⟨rfl, q, hq⟩
 have b1 : Below w.heap.size w w1 := by rw [hq]; exact below_drewNt w q
 have hz1 : w1.heap.size = w.heap.size := by rw [hq]; rfl
 clear hq hbin
 have d0 : w1.cell? ⟨b, o, none⟩ = some (.slice ka ks.length kc) := ct b1 hbl c0
 have d1 : w1.cell? ⟨b, o + 1, none⟩ = some (.slice va ks.length vc) := ct b1 hbl c1
 have HB1 := hid (hb.below b1 hbl)
 have hb1 : b < w1.heap.size := by omega
 have hBw : B <= w1.heap.size := by omega
 have hnn : ks.length <= 1048576 := by omega
 have HPS : Hid (PSt B 3 1 ks.length p w1 (.slice ka ks.length kc) (.slice va ks.length vc) (ks.map (Value.int .i64)) (us.map (Value.int .i64)) [.int .i64 x] [.int .i64 u] false false w1 (.slice ka ks.length kc) (.slice va ks.length vc)) := hid (⟨Fr.refl _ _, by simp only [Bool.false_eq_true, if_false]; exact ⟨trivial, own_below hK b1⟩, by simp only [Bool.false_eq_true, if_false]; exact ⟨trivial, own_below hV b1⟩, fun g z => .inl z, fun g z => .inl z, fun g z => by rw [hz1]; exact hKL g z, fun g z => by rw [hz1]; exact hVL g z, hkv, hkv⟩)
 have HNS : Hid (¬ ((Value.slice ka ks.length kc).ownBlock = some b \/ (Value.slice va ks.length vc).ownBlock = some b)) := hid (fun z => by rcases z with z | z; exact hkb z; exact hvb z)
 have HFE := hid (fun (Wp : World) (kv' vv' r : Value) h1 => HFIN.out w1 Wp kv' vv' r h1 b1 hz1 HB1.out)
 have hx1 : ∀ z ∈ ks.map (Value.int .i64), z.oneCell' = true := fun z hz => by obtain ⟨y, _, rfl⟩ := List.mem_map.1 hz; rfl
 have hu1 : ∀ z ∈ us.map (Value.int .i64), z.oneCell' = true := fun z hz => by obtain ⟨y, _, rfl⟩ := List.mem_map.1 hz; rfl
 have hv1 : ∀ z ∈ [Value.int .i64 u], z.oneCell' = true := by simp [Value.oneCell']
 clear c0 c1 hK hV hb hKL hVL HFIN hkv hkb hvb b1 hz1
 go_wp2
 refine wp_region_till_drew (S := (fun W => W.cell? ⟨b, o, none⟩ = some (.slice ka ks.length kc) /\ W.cell? ⟨b, o + 1, none⟩ = some (.slice va ks.length vc))) (late := [18, 19, 20, 21, 22, 23]) (by kernel_rfl) (by go_keep) (fun hHeld => ?_)
 refine tT 0 rfl hHeld ?_
 try simp only [Act.put, q1, q2, q3]
 refine tT 1 rfl hHeld ?_
 try simp only [Act.put, q1, q2, q3]
 refine tT 2 rfl hHeld ?_
 try simp only [Act.put, q1, q2, q3]
 refine tT 3 rfl hHeld ?_
 try simp only [Act.put, q1, q2, q3]
 refine tT 4 rfl hHeld ?_
 try simp only [Act.put, q1, q2, q3]
 refine till_ld (i := 5) (v := ?_) rfl (Or.inl ⟨by rfl, ?_⟩) hHeld ?_
 rotate_left
 .intro w hSw
  try dsimp only at hSw
  go_simp
  try with_reducible rfl
 try simp only [Act.put, q1, q2, q3]
 refine tT 6 rfl hHeld ?_
 try simp only [Act.put, q1, q2, q3]
 refine tT 7 rfl hHeld ?_
 try simp only [Act.put, q1, q2, q3]
 refine tT 10 rfl hHeld ?_
 try simp only [Act.put, q1, q2, q3]
 refine tT 11 rfl hHeld ?_
 try simp only [Act.put, q1, q2, q3]
 refine tT 12 rfl hHeld ?_
 try simp only [Act.put, q1, q2, q3]
 refine till_ld (i := 13) (v := ?_) rfl (Or.inl ⟨by rfl, ?_⟩) hHeld ?_
 rotate_left
 .intro w hSw
  try dsimp only at hSw
  go_simp
  try with_reducible rfl
 try simp only [Act.put, q1, q2, q3]
 refine tT 14 rfl hHeld ?_
 try simp only [Act.put, q1, q2, q3]
 refine tT 15 rfl hHeld ?_
 try simp only [Act.put, q1, q2, q3]
 refine till_ready (rs := [8, 16]) (by kernel_rfl) (by simp) ?_
 refine TillAll.cons rfl (fun K hK => ?_) ?_
 .go_simp
  refine hK _ _ ⟨?_, ?_⟩
  .go_keep
  clear hK K
  try simp only [Act.put, q1, q2, q3]
  refine till_ready (rs := [9, 16]) (by kernel_rfl) (by simp) ?_
  refine TillAll.cons rfl (fun K hK => ?_) ?_
  .go_simp
   go_wp2_with
    (go_at_call 85
     with_reducible refine (callK_int HPS.out ?_ ?_ ?_ hpl hnn hx1 hBw).mono ?_
     .exact bl
     .first | (with_reducible first | exact hnA _ _ | exact hnB _ _ | exact hnC _ _ _ | exact hnD _ _ _ | exact hnE _ _ _ | exact hnF _ _ _) | (refine (HX.out _ ?_ ?_).trans ?_ <;> first | (with_reducible first | exact hnA _ _ | exact hnB _ _ | exact hnC _ _ _ | exact hnD _ _ _ | exact hnE _ _ _ | exact hnF _ _ _) | (simp; done) | (simp; omega) | omega) | (rw [Below.heap_alloc _ _ _ (by omega)]; refine (HX.out _ ?_ ?_).trans ?_ <;> first | (with_reducible first | exact hnA _ _ | exact hnB _ _ | exact hnC _ _ _ | exact hnD _ _ _ | exact hnE _ _ _ | exact hnF _ _ _) | (simp; done) | (simp; omega) | omega)
     .have := HPS.out.fr.size; first | exact Nat.le_refl _ | (simp; done) | (simp; omega) | omega
     rintro e W2 ⟨a2, c2, rfl, hps, hxx⟩
     replace HPS := hid hps
     have HX := hid hxx
     have hbW : b < W2.heap.size := Nat.lt_of_lt_of_le hb1 hps.fr.size
     have KB2 := HB1.out.fr hps.fr hb1 HNS.out
     obtain ⟨j0, j1, n0, n1⟩ := kj KB2 hol ho1 hk hv
     have hws : w1.heap.size <= W2.heap.size := hps.fr.size
     clear hps hxx KB2)
   refine ⟨?_, ?_⟩
   .go_keep
   try simp only [Act.put, q1, q2, q3]
   refine till_ready (rs := [16]) (by kernel_rfl) (by simp) ?_
   refine TillAll.cons rfl (fun K hK => ?_) ?_
   .go_simp
    refine hK _ _ ⟨?_, ?_⟩
    .go_keep
    clear hK K
    try simp only [Act.put, q1, q2, q3]
    refine till_ready (rs := [17]) (by kernel_rfl) (by simp) ?_
    refine TillAll.cons rfl (fun K hK => ?_) ?_
    .go_simp
     go_wp2_with
      (go_at_call 85
       with_reducible refine (callV_int HPS.out ?_ ?_ ?_ hpl hnn rfl hv1 hu1 hBw).mono ?_
       .exact bl
       .first | (with_reducible first | exact hnA _ _ | exact hnB _ _ | exact hnC _ _ _ | exact hnD _ _ _ | exact hnE _ _ _ | exact hnF _ _ _) | (refine (HX.out _ ?_ ?_).trans ?_ <;> first | (with_reducible first | exact hnA _ _ | exact hnB _ _ | exact hnC _ _ _ | exact hnD _ _ _ | exact hnE _ _ _ | exact hnF _ _ _) | (simp; done) | (simp; omega) | omega) | (rw [Below.heap_alloc _ _ _ (by omega)]; refine (HX.out _ ?_ ?_).trans ?_ <;> first | (with_reducible first | exact hnA _ _ | exact hnB _ _ | exact hnC _ _ _ | exact hnD _ _ _ | exact hnE _ _ _ | exact hnF _ _ _) | (simp; done) | (simp; omega) | omega)
       .have := HPS.out.fr.size; first | exact Nat.le_refl _ | (simp; done) | (simp; omega) | omega
       rintro e W2 ⟨a2, c2, rfl, hps, hxx⟩
       replace HPS := hid hps
       have HX := hid hxx
       have hbW : b < W2.heap.size := Nat.lt_of_lt_of_le hb1 hps.fr.size
       have KB2 := HB1.out.fr hps.fr hb1 HNS.out
       obtain ⟨j0, j1, n0, n1⟩ := kj KB2 hol ho1 hk hv
       have hws : w1.heap.size <= W2.heap.size := hps.fr.size
       clear hps hxx KB2)
     refine ⟨?_, ?_⟩
     .go_keep
     try simp only [Act.put, q1, q2, q3]
     refine rL 18 rfl fun K hK => ?_
     go_simp
     refine hK _ _ ?_
     clear hK K
     try simp only [Act.put, q1, q2, q3]
     refine rL 19 rfl fun K hK => ?_
     go_simp
     refine hK _ _ ?_
     clear hK K
     try simp only [Act.put, q1, q2, q3]
     refine rL 20 rfl fun K hK => ?_
     go_simp
     refine hK _ _ ?_
     clear hK K
     try simp only [Act.put, q1, q2, q3]
     refine rL 21 rfl fun K hK => ?_
     go_simp
     refine hK _ _ ?_
     clear hK K
     try simp only [Act.put, q1, q2, q3]
     refine rL 22 rfl fun K hK => ?_
     go_simp
     refine hK _ _ ?_
     clear hK K
     try simp only [Act.put, q1, q2, q3]
     refine rL 23 rfl fun K hK => ?_
     go_simp
     refine hK _ _ ?_
     clear hK K
     try simp only [Act.put, q1, q2, q3]
     refine till_done (by kernel_rfl) ?_ _
     go_wp2
     refine bodyPost_ret (results_none rfl _ _ _) rfl ?_
     exact HFE.out _ _ _ _ HPS.out
    exact TillAll.nil
   exact TillAll.nil
  refine TillAll.cons rfl (fun K hK => ?_) ?_
  .go_simp
   refine hK _ _ ⟨?_, ?_⟩
   .go_keep
   clear hK K
   try simp only [Act.put, q1, q2, q3]
   refine till_ready (rs := [9]) (by kernel_rfl) (by simp) ?_
   refine TillAll.cons rfl (fun K hK => ?_) ?_
   .go_simp
    go_wp2_with
     (go_at_call 85
      with_reducible refine (callK_int HPS.out ?_ ?_ ?_ hpl hnn hx1 hBw).mono ?_
      .exact bl
      .first | (with_reducible first | exact hnA _ _ | exact hnB _ _ | exact hnC _ _ _ | exact hnD _ _ _ | exact hnE _ _ _ | exact hnF _ _ _) | (refine (HX.out _ ?_ ?_).trans ?_ <;> first | (with_reducible first | exact hnA _ _ | exact hnB _ _ | exact hnC _ _ _ | exact hnD _ _ _ | exact hnE _ _ _ | exact hnF _ _ _) | (simp; done) | (simp; omega) | omega) | (rw [Below.heap_alloc _ _ _ (by omega)]; refine (HX.out _ ?_ ?_).trans ?_ <;> first | (with_reducible first | exact hnA _ _ | exact hnB _ _ | exact hnC _ _ _ | exact hnD _ _ _ | exact hnE _ _ _ | exact hnF _ _ _) | (simp; done) | (simp; omega) | omega)
      .have := HPS.out.fr.size; first | exact Nat.le_refl _ | (simp; done) | (simp; omega) | omega
      rintro e W2 ⟨a2, c2, rfl, hps, hxx⟩
      replace HPS := hid hps
      have HX := hid hxx
      have hbW : b < W2.heap.size := Nat.lt_of_lt_of_le hb1 hps.fr.size
      have KB2 := HB1.out.fr hps.fr hb1 HNS.out
      obtain ⟨j0, j1, n0, n1⟩ := kj KB2 hol ho1 hk hv
      have hws : w1.heap.size <= W2.heap.size := hps.fr.size
      clear hps hxx KB2)
    refine ⟨?_, ?_⟩
    .go_keep
    try simp only [Act.put, q1, q2, q3]
    refine till_ready (rs := [17]) (by kernel_rfl) (by simp) ?_
    refine TillAll.cons rfl (fun K hK => ?_) ?_
    .go_simp
     go_wp2_with
      (go_at_call 85
       with_reducible refine (callV_int HPS.out ?_ ?_ ?_ hpl hnn rfl hv1 hu1 hBw).mono ?_
       .exact bl
       .first | (with_reducible first | exact hnA _ _ | exact hnB _ _ | exact hnC _ _ _ | exact hnD _ _ _ | exact hnE _ _ _ | exact hnF _ _ _) | (refine (HX.out _ ?_ ?_).trans ?_ <;> first | (with_reducible first | exact hnA _ _ | exact hnB _ _ | exact hnC _ _ _ | exact hnD _ _ _ | exact hnE _ _ _ | exact hnF _ _ _) | (simp; done) | (simp; omega) | omega) | (rw [Below.heap_alloc _ _ _ (by omega)]; refine (HX.out _ ?_ ?_).trans ?_ <;> first | (with_reducible first | exact hnA _ _ | exact hnB _ _ | exact hnC _ _ _ | exact hnD _ _ _ | exact hnE _ _ _ | exact hnF _ _ _) | (simp; done) | (simp; omega) | omega)
       .have := HPS.out.fr.size; first | exact Nat.le_refl _ | (simp; done) | (simp; omega) | omega
       rintro e W2 ⟨a2, c2, rfl, hps, hxx⟩
       replace HPS := hid hps
       have HX := hid hxx
       have hbW : b < W2.heap.size := Nat.lt_of_lt_of_le hb1 hps.fr.size
       have KB2 := HB1.out.fr hps.fr hb1 HNS.out
       obtain ⟨j0, j1, n0, n1⟩ := kj KB2 hol ho1 hk hv
       have hws : w1.heap.size <= W2.heap.size := hps.fr.size
       clear hps hxx KB2)
     refine ⟨?_, ?_⟩
     .go_keep
     try simp only [Act.put, q1, q2, q3]
     refine rL 18 rfl fun K hK => ?_
     go_simp
     refine hK _ _ ?_
     clear hK K
     try simp only [Act.put, q1, q2, q3]
     refine rL 19 rfl fun K hK => ?_
     go_simp
     refine hK _ _ ?_
     clear hK K
     try simp only [Act.put, q1, q2, q3]
     refine rL 20 rfl fun K hK => ?_
     go_simp
     refine hK _ _ ?_
     clear hK K
     try simp only [Act.put, q1, q2, q3]
     refine rL 21 rfl fun K hK => ?_
     go_simp
     refine hK _ _ ?_
     clear hK K
     try simp only [Act.put, q1, q2, q3]
     refine rL 22 rfl fun K hK => ?_
     go_simp
     refine hK _ _ ?_
     clear hK K
     try simp only [Act.put, q1, q2, q3]
     refine rL 23 rfl fun K hK => ?_
     go_simp
     refine hK _ _ ?_
     clear hK K
     try simp only [Act.put, q1, q2, q3]
     refine till_done (by kernel_rfl) ?_ _
     go_wp2
     refine bodyPost_ret (results_none rfl _ _ _) rfl ?_
     exact HFE.out _ _ _ _ HPS.out
    exact TillAll.nil
   exact TillAll.nil
  exact TillAll.nil
 refine TillAll.cons rfl (fun K hK => ?_) ?_
 .go_simp
  refine hK _ _ ⟨?_, ?_⟩
  .go_keep
  clear hK K
  try simp only [Act.put, q1, q2, q3]
  refine till_ready (rs := [8]) (by kernel_rfl) (by simp) ?_
  refine TillAll.cons rfl (fun K hK => ?_) ?_
  .go_simp
   refine hK _ _ ⟨?_, ?_⟩
   .go_keep
   clear hK K
   try simp only [Act.put, q1, q2, q3]
   refine till_ready (rs := [9]) (by kernel_rfl) (by simp) ?_
   refine TillAll.cons rfl (fun K hK => ?_) ?_
   .go_simp
    go_wp2_with
     (go_at_call 85
      with_reducible refine (callK_int HPS.out ?_ ?_ ?_ hpl hnn hx1 hBw).mono ?_
      .exact bl
      .first | (with_reducible first | exact hnA _ _ | exact hnB _ _ | exact hnC _ _ _ | exact hnD _ _ _ | exact hnE _ _ _ | exact hnF _ _ _) | (refine (HX.out _ ?_ ?_).trans ?_ <;> first | (with_reducible first | exact hnA _ _ | exact hnB _ _ | exact hnC _ _ _ | exact hnD _ _ _ | exact hnE _ _ _ | exact hnF _ _ _) | (simp; done) | (simp; omega) | omega) | (rw [Below.heap_alloc _ _ _ (by omega)]; refine (HX.out _ ?_ ?_).trans ?_ <;> first | (with_reducible first | exact hnA _ _ | exact hnB _ _ | exact hnC _ _ _ | exact hnD _ _ _ | exact hnE _ _ _ | exact hnF _ _ _) | (simp; done) | (simp; omega) | omega)
      .have := HPS.out.fr.size; first | exact Nat.le_refl _ | (simp; done) | (simp; omega) | omega
      rintro e W2 ⟨a2, c2, rfl, hps, hxx⟩
      replace HPS := hid hps
      have HX := hid hxx
      have hbW : b < W2.heap.size := Nat.lt_of_lt_of_le hb1 hps.fr.size
      have KB2 := HB1.out.fr hps.fr hb1 HNS.out
      obtain ⟨j0, j1, n0, n1⟩ := kj KB2 hol ho1 hk hv
      have hws : w1.heap.size <= W2.heap.size := hps.fr.size
      clear hps hxx KB2)
    refine ⟨?_, ?_⟩
    .go_keep
    try simp only [Act.put, q1, q2, q3]
    refine till_ready (rs := [17]) (by kernel_rfl) (by simp) ?_
    refine TillAll.cons rfl (fun K hK => ?_) ?_
    .go_simp
     go_wp2_with
      (go_at_call 85
       with_reducible refine (callV_int HPS.out ?_ ?_ ?_ hpl hnn rfl hv1 hu1 hBw).mono ?_
       .exact bl
       .first | (with_reducible first | exact hnA _ _ | exact hnB _ _ | exact hnC _ _ _ | exact hnD _ _ _ | exact hnE _ _ _ | exact hnF _ _ _) | (refine (HX.out _ ?_ ?_).trans ?_ <;> first | (with_reducible first | exact hnA _ _ | exact hnB _ _ | exact hnC _ _ _ | exact hnD _ _ _ | exact hnE _ _ _ | exact hnF _ _ _) | (simp; done) | (simp; omega) | omega) | (rw [Below.heap_alloc _ _ _ (by omega)]; refine (HX.out _ ?_ ?_).trans ?_ <;> first | (with_reducible first | exact hnA _ _ | exact hnB _ _ | exact hnC _ _ _ | exact hnD _ _ _ | exact hnE _ _ _ | exact hnF _ _ _) | (simp; done) | (simp; omega) | omega)
       .have := HPS.out.fr.size; first | exact Nat.le_refl _ | (simp; done) | (simp; omega) | omega
       rintro e W2 ⟨a2, c2, rfl, hps, hxx⟩
       replace HPS := hid hps
       have HX := hid hxx
       have hbW : b < W2.heap.size := Nat.lt_of_lt_of_le hb1 hps.fr.size
       have KB2 := HB1.out.fr hps.fr hb1 HNS.out
       obtain ⟨j0, j1, n0, n1⟩ := kj KB2 hol ho1 hk hv
       have hws : w1.heap.size <= W2.heap.size := hps.fr.size
       clear hps hxx KB2)
     refine ⟨?_, ?_⟩
     .go_keep
     try simp only [Act.put, q1, q2, q3]
     refine rL 18 rfl fun K hK => ?_
     go_simp
     refine hK _ _ ?_
     clear hK K
     try simp only [Act.put, q1, q2, q3]
     refine rL 19 rfl fun K hK => ?_
     go_simp
     refine hK _ _ ?_
     clear hK K
     try simp only [Act.put, q1, q2, q3]
     refine rL 20 rfl fun K hK => ?_
     go_simp
     refine hK _ _ ?_
     clear hK K
     try simp only [Act.put, q1, q2, q3]
     refine rL 21 rfl fun K hK => ?_
     go_simp
     refine hK _ _ ?_
     clear hK K
     try simp only [Act.put, q1, q2, q3]
     refine rL 22 rfl fun K hK => ?_
     go_simp
     refine hK _ _ ?_
     clear hK K
     try simp only [Act.put, q1, q2, q3]
     refine rL 23 rfl fun K hK => ?_
     go_simp
     refine hK _ _ ?_
     clear hK K
     try simp only [Act.put, q1, q2, q3]
     refine till_done (by kernel_rfl) ?_ _
     go_wp2
     refine bodyPost_ret (results_none rfl _ _ _) rfl ?_
     exact HFE.out _ _ _ _ HPS.out
    exact TillAll.nil
   exact TillAll.nil
  exact TillAll.nil
 exact TillAll.nil
end Go.Proofs.YtblkgicbimflhaaGreat
