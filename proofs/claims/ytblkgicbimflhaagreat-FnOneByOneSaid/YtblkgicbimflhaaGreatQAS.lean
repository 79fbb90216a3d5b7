import Derived.Test.YtblkgicbimflhaaGreatQAR
namespace Go.Proofs.YtblkgicbimflhaaGreat
open Go.ChangeShapes Go.WideShapes Go.ChangeAt Go.RowKit
set_option linter.unusedVariables false
set_option linter.unusedSimpArgs false
set_option maxRecDepth 100000
set_option maxHeartbeats 16000000
open Go.ChangeMaps (setBlock)
theorem settle_2 (B sb : Nat) (w : World) (L : LIx -> Value) (c : Led) (ck : Int) (op : Nat -> Option Addr) (t : TG) (x : Txn) (hL : LedM B w L c) (hLb : LedB c) (hS : Blk w sb (sesC ck L op)) (hsb : sb < w.heap.size) (hT : TrM B w t x) (hck : 0 <= ck) (hck2 : ck <= 1000) (hB : B <= w.heap.size) (hns : ¬ ldF L sb) (hdt : ∀ b, trF t b -> ¬ ldF L b /\ b ≠ sb) (hst : ∀ k y z, z ∈ c.T k y -> z.1 <= ck) (hKb : ∀ k, (c.K k).length + t.M.length < 1048576) (hTb : ∀ k y, (c.T k y).length + 1 < 1048576) (hHl : c.hs.length < 1000) (hmd : x.md = 2) :
 Calls Tryz.prog 71 #[.pointer (some ⟨sb, 0, none⟩), .pointer (some ⟨t.g, 0, none⟩)] w fun e w' => (∃ r, e = .returned r) /\ SettP B sb w L c ck op t x w' := by
 obtain ⟨i0, hi, hz0, hz1, hz2⟩ := info_parts infoTI
 obtain ⟨wA, hwA⟩ : ∃ z, z = w.setCell ⟨sb, 0, none⟩ (.int .i64 (ck + 1)) := ⟨_, rfl⟩
 have fA : Fr (fun g => g = sb) w wA := by rw [hwA]; exact Fr.setCell w sb 0 _
 have TA : TrM B wA t x := hT.fr fA (fun b hb => (hdt b hb).2)
 have LA : LedM B wA L c := hL.fr fA (fun g hg e => hns (by rw [<- e]; exact hg))
 have SA : Blk wA sb (sesC (ck + 1) L op) := by rw [hwA]; exact ses_clock hS
 have hzA : wA.heap.size = w.heap.size := by rw [hwA]; simp
 have c0 := (ses_cell hS (j := 0) (by omega)).1
 have f0 := (ses_cell hS (j := 0) (by omega)).2
 rw [sesAt_0] at c0
 have d1 := TA.c1
 have hw1 : IntKind.i64.wrap (ck + 1) = ck + 1 := by simp only [IntKind.wrap_i64, wrap64]; omega
 have hmb2 : (x.md == 2) = true := by rw [hmd]; rfl
 have e0 := (ses_cell SA (j := 0) (by omega)).1
 have e65 := (ses_cell SA (j := 65) (by omega)).1
 have f65 := (ses_cell SA (j := 65) (by omega)).2
 rw [sesAt_0] at e0
 rw [sesAt_hs] at e65
 obtain ⟨ga, ca, hhs, _⟩ := LA.hform
 rw [hhs] at e65
 have hsA : sb < wA.heap.size := by omega
 have HCI := hid ((TA.below (Below.refl _ wA).drew).info (ck + 1))
 have HTA := hid TA
 have HLA := hid LA
 have HSA := hid SA
 have HFA := hid fA
 have HZA := hid hzA
 clear hS hL TA LA SA fA hzA
 rw [hwA] at d1
 go_enter Tryz.func71, Tryz.ntmps71
 go_wp2
 rw [<- hwA]
 rw [<- hwA] at d1
 clear c0 f0 hwA
 refine wp_region_till_drew (S := (fun W => W.cell? ⟨sb, 0, none⟩ = some (.int .i64 (ck + 1)) /\ W.cell? ⟨sb, 65, none⟩ = some (.slice ga c.hs.length ca))) (late := [13, 14, 15]) (by kernel_rfl) ⟨e0, e65⟩ (fun hHeld => ?_)
 refine tT 0 rfl hHeld ?_
 try simp only [Act.put, q1, q2, q3]
 refine tT 1 rfl hHeld ?_
 try simp only [Act.put, q1, q2, q3]
 refine tT 2 rfl hHeld ?_
 try simp only [Act.put, q1, q2, q3]
 refine tT 3 rfl hHeld ?_
 try simp only [Act.put, q1, q2, q3]
 refine till_ld (i := 4) (v := ?_) rfl (Or.inl ⟨by rfl, ?_⟩) hHeld ?_
 rotate_left
 .intro w hSw
  try dsimp only at hSw
  go_simp
  try with_reducible rfl
 try simp only [Act.put, q1, q2, q3]
 refine tT 5 rfl hHeld ?_
 try simp only [Act.put, q1, q2, q3]
 refine tT 6 rfl hHeld ?_
 try simp only [Act.put, q1, q2, q3]
 refine tT 7 rfl hHeld ?_
 try simp only [Act.put, q1, q2, q3]
 refine tT 8 rfl hHeld ?_
 try simp only [Act.put, q1, q2, q3]
 refine till_ld (i := 9) (v := ?_) rfl (Or.inl ⟨by rfl, ?_⟩) hHeld ?_
 rotate_left
 .intro w hSw
  try dsimp only at hSw
  go_simp
  try with_reducible rfl
 try simp only [Act.put, q1, q2, q3]
 refine rE 10 rfl fun K hK => ?_
 go_simp
 refine HCI.out.mono ?_
 rintro e W2 ⟨v2, v3, rfl, hG2, hG3, hds, hb2⟩
 replace hb2 : Below wA.heap.size wA W2 := undrew hb2
 have g0 : W2.cell? ⟨sb, 0, none⟩ = some (.int .i64 (ck + 1)) := ct hb2 hsA e0
 have g65 : W2.cell? ⟨sb, 65, none⟩ = some (.slice ga c.hs.length ca) := ct hb2 hsA e65
 have k65 : W2.frozen? ⟨sb, 65, none⟩ = false := (hb2.frozen (p := ⟨sb, 65, none⟩) hsA).trans f65
 obtain ⟨a2, n2, q2, hf2⟩ : ∃ a m q, v2 = .slice a m q := by obtain ⟨a, q, e⟩ := hG2.form; exact ⟨_, _, _, e⟩
 obtain ⟨a3, n3, q3, hf3⟩ : ∃ a m q, v3 = .slice a m q := by obtain ⟨a, q, e⟩ := hG3.form; exact ⟨_, _, _, e⟩
 subst hf2 hf3
 have HG2 := hid hG2
 have HG3 := hid hG3
 have HDS := hid hds
 have HB2 := hid hb2
 refine hK _ _ ⟨⟨g0, g65⟩, ?_⟩
 clear hK K hG2 hG3 hds HCI e0 e65 f65
 try simp only [Act.put, q1, q2, q3]
 have hs2 := hb2.size
 obtain ⟨W2a, hW2a⟩ : ∃ z, z = W2.alloc (.cells #[.int .i64 x.bg, .int .i64 (ck + 1), .slice a2 n2 q2, .slice a3 n3 q3] 131) := ⟨_, rfl⟩
 have b2a : Below wA.heap.size wA W2a := by rw [hW2a]; exact hb2.alloc hs2 _
 have ba : Below W2.heap.size W2 W2a := by rw [hW2a]; exact below_alloc _ _
 have h0a : W2a.cell? ⟨sb, 0, none⟩ = some (.int .i64 (ck + 1)) := ct ba (by show sb < _; omega) g0
 have h65a : W2a.cell? ⟨sb, 65, none⟩ = some (.slice ga c.hs.length ca) := ct ba (by show sb < _; omega) g65
 have j65a : W2a.frozen? ⟨sb, 65, none⟩ = false := (ba.frozen (p := ⟨sb, 65, none⟩) (by show sb < _; omega)).trans k65
 have hnews : ∀ j u, [Value.int .i64 x.bg, .int .i64 (ck + 1), .slice a2 n2 q2, .slice a3 n3 q3][j]? = some u -> W2a.cell? ((⟨W2.heap.size, 0, none⟩ : Addr).add j) = some u := by rw [hW2a]; exact cells_new _ [.int .i64 x.bg, .int .i64 (ck + 1), .slice a2 n2 q2, .slice a3 n3 q3] 131 _ rfl
 have r0 : W2a.ownsRow B 131 4 (.slice ga c.hs.length ca) c.hs.length ((List.range c.hs.length).flatMap (hsC L c.hs)) := by
  have := (HLA.out.below b2a).rm.rows .hs
  rw [hhs] at this
  exact this
 obtain ⟨v', W3, hrun3, hown, hgrow, _, hat⟩ := run_append_own_at (P := Tryz.prog) W2a B 25 25 131 i0 _ 4 64 Tryz.underlying25 hi hz0 hz1 hz2 rfl (by decide) (.slice ga c.hs.length ca) c.hs.length _ r0 ⟨W2.heap.size, 0, none⟩ 1 1 [.int .i64 x.bg, .int .i64 (ck + 1), .slice a2 n2 q2, .slice a3 n3 q3] rfl hnews (by intro u hu; simp at hu; rcases hu with rfl | rfl | rfl | rfl <;> rfl) (by unfold maxLen; omega) (by omega) (by have := b2a.size; have := HZA.out; omega)
 obtain ⟨na, nn, nc, hvn⟩ : ∃ a m q, v' = .slice a m q := by obtain ⟨a, q, e⟩ := formR hown; exact ⟨_, _, _, e⟩
 subst hvn
 have hfg : Fr (fun g => (L .hs).ownBlock = some g) W2a W3 := by rw [hhs]; exact Fr.grown hgrow
 have hbk := hfg.block sb (by have := b2a.size; omega) (fun e => hns ⟨_, e⟩)
 have m0 : W3.cell? ⟨sb, 0, none⟩ = some (.int .i64 (ck + 1)) := (World.cell?_of_block (a := ⟨sb, 0, none⟩) hbk).trans h0a
 have m65 : W3.cell? ⟨sb, 65, none⟩ = some (.slice ga c.hs.length ca) := (World.cell?_of_block (a := ⟨sb, 65, none⟩) hbk).trans h65a
 have l65 : W3.frozen? ⟨sb, 65, none⟩ = false := (World.frozen?_of_block (a := ⟨sb, 65, none⟩) hbk).trans j65a
 have S3 : Blk W3 sb (sesC (ck + 1) L op) := (HSA.out.below b2a hsA).fr hfg (by have := b2a.size; omega) (fun e => hns ⟨_, e⟩)
 obtain ⟨L', hL', htk, hhs', hN'⟩ := HLA.out.pushH (hi := infoF x.bg (ck + 1) x.own x.rs) (by have := HZA.out; omega) b2a (own_below HG2.out ba) (own_below HG3.out ba) HDS.out hfg hown (by
  rcases hat with z | z
  .exact .inl (by rw [hhs]; exact z)
  .exact .inr ⟨_, z, Nat.le_refl _⟩)
 obtain ⟨wB, hwB⟩ : ∃ z, z = W3.setCell ⟨sb, 65, none⟩ (.slice na nn nc) := ⟨_, rfl⟩
 have fB : Fr (fun g => g = sb) W3 wB := by rw [hwB]; exact Fr.setCell W3 sb 65 _
 have hnsB : ¬ ldF L' sb := fun z => by
  rcases hN' sb z with q | q
  .exact hns q
  .omega
 have SB : Blk wB sb (sesC (ck + 1) L' op) := by rw [hwB]; exact ses_hist S3 htk hhs'
 have LB : LedM B wB L' { c with hs := c.hs ++ [infoF x.bg (ck + 1) x.own x.rs] } := hL'.fr fB (fun g hg e => hnsB (by rw [<- e]; exact hg))
 have FB : Fr (fun g => g = sb \/ ldF L g) w wB := (((HFA.out.mono (fun g e => .inl e)).trans (Fr.of_below _ b2a)).trans (hfg.mono (fun g e => .inr ⟨_, e⟩))).trans (fB.mono (fun g e => .inl e))
 have TB : TrM B wB t x := hT.fr FB (fun b hb z => by
  rcases z with z | z
  .exact (hdt b hb).2 z
  .exact (hdt b hb).1 z)
 have d34 := TB.c34
 have hzB := FB.size
 obtain ⟨o, hrun, hit⟩ := run_rangeM wB t.mb t.M TB.mp
 have hzw : wB.heap.size = W3.heap.size := by rw [hwB]; simp
 rw [hzw] at hrun hit hzB
 have HSM : Hid (SetM B sb w L { c with hs := c.hs ++ [infoF x.bg (ck + 1) x.own x.rs] } (ck + 1) op t.mb t.M W3.heap.size (wB.alloc o) L' { c with hs := c.hs ++ [infoF x.bg (ck + 1) x.own x.rs] } []) := hid (⟨LB.below (below_alloc _ _), SB.below (below_alloc _ _) (by rw [hzw]; omega), hit, fun k y => by simp, rfl, fun k => by simp, fun g hg => by
  rcases hN' g hg with q | q
  .exact .inl q
  .exact .inr (by have := HZA.out; omega), FB.trans (Fr.of_below _ (below_alloc _ _)), List.nodup_nil, fun k h => absurd h (by simp), hns, hsb, hzB, fun k y z hz => by have := hst k y z hz; omega⟩)
 clear hzw hit SB LB FB TB fB hnsB hN' hhs' htk hL' S3 hbk hfg hat hgrow hown HG2 HG3 HDS HSA HLA HTA HFA
 refine rE 11 rfl fun K hK => ?_
 rw [hW2a] at h0a h65a
 go_simp
 refine hK _ _ ⟨⟨h0a, h65a⟩, ?_⟩
 clear hK K
 rw [<- hW2a] at h0a h65a ⊢
 clear hW2a
 try simp only [Act.put, q1, q2, q3]
 refine rE 12 rfl fun K hK => ?_
 refine step_append_run rfl (.tmp 23) (.tmp 30) 25 rfl _ _ rfl rfl _ _ hrun3 ?_
 refine hK _ _ ⟨⟨m0, m65⟩, ?_⟩
 clear hK K
 try simp only [Act.put, q1, q2, q3]
 clear hrun3 h0a h65a j65a g0 g65 k65 hnews r0 b2a ba
 refine rL 13 rfl fun K hK => ?_
 go_simp
 refine hK _ _ ?_
 clear hK K
 try simp only [Act.put, q1, q2, q3]
 refine rL 14 rfl fun K hK => ?_
 go_simp
 refine hK _ _ ?_
 clear hK K
 try simp only [Act.put, q1, q2, q3]
 refine rL 15 rfl fun K hK => ?_
 go_simp
 refine hK _ _ ?_
 clear hK K
 try simp only [Act.put, q1, q2, q3]
 refine till_done (by kernel_rfl) ?_ _
 rw [hwB] at hrun d34
 go_wp2
 rw [<- hwB]
 clear hrun d34 hwB m0 m65 l65 d1
 go_loopw [] (fun wr => ∃ L1 c1 D, Hid (SetM B sb w L { c with hs := c.hs ++ [infoF x.bg (ck + 1) x.own x.rs] } (ck + 1) op t.mb t.M W3.heap.size wr L1 c1 D)) (fun wr => wr.rangeLeft t.mb W3.heap.size)
 case atStart => exact ⟨_, _, [], HSM⟩
 case round =>
  clear HSM
  obtain ⟨L1, c1, D, HSM⟩ := hrel
  have hsm := HSM.out
  have hrl := hsm.rl
  rcases hsm.it.next 0 with ⟨hall, hrun⟩ | ⟨m, w1, hm, hnD, hrun, hit1, hf1, hz1, hlt, hen⟩
  .have HF : Hid (SettP B sb w L c ck op t x wr) := hid (by
    have hc : ∀ k y, c1.T k y = c.T k y ++ newV t.M (ck + 1) k y := fun k y => by
     have h1 : c1.T k y = c.T k y ++ (if ((k : Int), y) ∈ D then newV t.M (ck + 1) k y else []) := hsm.hT k y
     rw [h1]
     by_cases e : ((k : Int), y) ∈ D
     .rw [if_pos e]
     .rw [if_neg e]
      have : mget t.M ((k : Int), y) = none := by
       cases hq : mget t.M ((k : Int), y) with
       | none => rfl
       | some z => exact absurd (hall _ (mget_some hq)) e
      unfold newV
      rw [this]
    exact ⟨L1, c1, hsm.led, hsm.ses, hc, by rw [hsm.hH]; simp [hmd], hsm.nw, hsm.fr⟩)
   clear hall hsm HSM
   go_wp2
   go_end0
   exact ⟨⟨_, rfl⟩, HF.out⟩
  .obtain ⟨⟨a, y⟩, v, b⟩ := m
   have ht := hT.mi _ hm
   simp only at ht
   obtain ⟨n, rfl⟩ : ∃ n : Nat, a = (n : Int) := ⟨a.toNat, by omega⟩
   have hn : n < 32 := by omega
   have hni : (n : Int) < 32 := by omega
   have hsr := hsm.fr.size
   have hs1 := hf1.size
   have nr : ∀ g, ldF L1 g -> g ≠ W3.heap.size /\ g ≠ t.mb := fun g hg => by
    obtain ⟨i, hi⟩ := hg
    obtain ⟨q1, q2⟩ := it_own hsm.it (hsm.led.rm.rows i)
    exact ⟨fun e => q1 (by rw [<- e]; exact hi), fun e => q2 (by rw [<- e]; exact hi)⟩
   have sbr := it_blk hsm.it hsm.ses (by rw [sesC_len]; omega)
   have led1 : LedM B w1 L1 c1 := hsm.led.fr hf1 (fun g hg => (nr g hg).1)
   have ses1 : Blk w1 sb (sesC (ck + 1) L1 op) := hsm.ses.fr hf1 (by omega) sbr.1
   have hkl := hsm.kl n
   have hDl : D.length < t.M.length := by
    have := sub_len (D := ((n : Int), y) :: D) (E := t.M.map Prod.fst) (List.nodup_cons.2 ⟨hnD, hsm.nd⟩) (fun d hd => by
     rcases List.mem_cons.1 hd with z | z
     .rw [z]; exact List.mem_map_of_mem hm
     .obtain ⟨u, hu⟩ := hsm.hd d z; exact List.mem_map_of_mem hu)
    rw [List.length_cons, List.length_map] at this
    omega
   have hTn : c1.T n y = c.T n y := by have h1 : c1.T n y = c.T n y ++ (if ((n : Int), y) ∈ D then newV t.M (ck + 1) n y else []) := hsm.hT n y; rw [h1, if_neg hnD, List.append_nil]
   have hLB : LedB c1 := ⟨fun k => by have h1 : (c1.K k).length <= (c.K k).length + D.length := hsm.kl k; have h2 := hKb k; have h3 : D.length < t.M.length := hDl; omega, fun k z => by
    have h1 : c1.T k z = c.T k z ++ (if ((k : Int), z) ∈ D then newV t.M (ck + 1) k z else []) := hsm.hT k z
    rw [h1, List.length_append]
    have h2 := hTb k z
    have h3 : (if ((k : Int), z) ∈ D then newV t.M (ck + 1) k z else []).length <= 1 := by
     split
     .unfold newV; split <;> simp
     .simp
    omega, by rw [hsm.hH]; simp only [List.length_append, List.length_cons, List.length_nil]; omega, by rw [hsm.hH]; intro h hh; rcases List.mem_append.1 hh with z | z; exact hLb.hb h z; rw [List.mem_singleton] at z; rw [z]; exact ⟨tabsT_len _ _, tabsT_len _ _⟩⟩
   obtain ⟨wb, hwb⟩ : ∃ z, z = (w1.alloc (.cells #[.int .i64 (n : Int), .int .i64 y] 113)).alloc (.cells #[.int .i64 v, .bool b] 121) := ⟨_, rfl⟩
   have bb1 : Below w1.heap.size w1 wb := by rw [hwb]; exact (below_alloc w1 _).trans ((below_alloc _ _).mono (by simp))
   have hzb : wb.heap.size = w1.heap.size + 1 + 1 := by rw [hwb]; simp
   have ksp : Blk wb w1.heap.size [.int .i64 (n : Int), .int .i64 y] := by rw [hwb]; exact (blk_new w1 [.int .i64 (n : Int), .int .i64 y] 113).below (below_alloc _ _) (by simp)
   have kvn : Blk wb (w1.heap.size + 1) [.int .i64 v, .bool b] := by
    have := blk_new (w1.alloc (.cells #[.int .i64 (n : Int), .int .i64 y] 113)) [.int .i64 v, .bool b] 121
    rw [show (w1.alloc (.cells #[.int .i64 (n : Int), .int .i64 y] 113)).heap.size = w1.heap.size + 1 by simp] at this
    rw [hwb]; exact this
   have sl1 : sb < w1.heap.size := by omega
   have hva := (led1.below bb1).vat hLB (ses1.below bb1 sl1) (by omega) n hn y
   obtain ⟨⟨ka, kn, kc, hek⟩, va, vn, vc, hev⟩ := led1.ff n y
   have HM := hid hm
   have HND := hid hnD
   have HI1 := hid hit1
   have HF1 := hid hf1
   have HLT := hid hlt
   have HLE := hid led1
   have HSE := hid ses1
   have HLB := hid hLB
   clear hit1 hf1 hlt hm hnD ht led1 ses1 hLB hsm nr
   simp only [sptV, vsnV] at hrun hen
   have hzq := hid hz1
   clear hz1
   rw [hwb] at hva
   go_wp2_with (go_at_call 64; fail)
   refine hva.mono ?_
   rw [<- hwb]
   rintro e w3 ⟨rfl, hb3⟩
   have b13 : Below w1.heap.size w1 w3 := bb1.trans (hb3.mono bb1.size)
   have hs3 := hb3.size
   obtain ⟨w4, hw4⟩ : ∃ z, z = w3.alloc (.cells #[L1 (.ek n y), L1 (.ev n y)] 155) := ⟨_, rfl⟩
   have b14 : Below w1.heap.size w1 w4 := by rw [hw4]; exact b13.trans ((below_alloc _ _).mono (by omega))
   have hz4 : w4.heap.size = w3.heap.size + 1 := by rw [hw4]; simp
   have led4 := HLE.out.below b14
   have ses4 := HSE.out.below b14 sl1
   have kvb : Blk w4 w3.heap.size [L1 (.ek n y), L1 (.ev n y)] := by rw [hw4]; exact blk_new w3 [L1 (.ek n y), L1 (.ev n y)] 155
   have ksp4 : Blk w4 w1.heap.size [.int .i64 (n : Int), .int .i64 y] := by rw [hw4]; exact (ksp.below hb3 (by omega)).below (below_alloc _ _) (by omega)
   have kvn4 : Blk w4 (w1.heap.size + 1) [.int .i64 v, .bool b] := by rw [hw4]; exact (kvn.below hb3 (by omega)).below (below_alloc _ _) (by omega)
   have q0 := (ses_cell ses4 (j := 0) (by omega)).1
   rw [sesAt_0] at q0
   obtain ⟨p0, p1⟩ := kc1 kvn4
   have nvb : ∀ g, ldF L1 g -> g ≠ w3.heap.size := fun g hg e => by have h1 := (HLE.out.rm.lt hg).2; omega
   have ndk : ∀ g, (L1 (.ek n y)).ownBlock = some g -> (L1 (.ev n y)).ownBlock ≠ some g := fun g h1 h2 => by have := led4.rm.inj _ _ g h1 h2; cases this
   have ndt : ∀ g, (L1 (.tk n)).ownBlock = some g -> (L1 (.tv n)).ownBlock ≠ some g := fun g h1 h2 => by have := led4.rm.inj _ _ g h1 h2; cases this
   have hml : ((c1.T n y).map (·.1)).length = (c1.T n y).length := List.length_map _
   have hall : ∀ k ∈ (c1.T n y).map (·.1), k < ck + 1 := fun k hk => by
    obtain ⟨z, hz, rfl⟩ := List.mem_map.1 hk
    rw [hTn] at hz
    have := hst n y z hz
    omega
   have HP1 := hid (put_ver_new B w3.heap.size 0 [L1 (.ek n y), L1 (.ev n y)] (L1 (.ek n y)) (L1 (.ev n y)) ((c1.T n y).map (·.1)) ((c1.T n y).map verV) (ck + 1) v b w4.drew kvb (by show w3.heap.size < w4.heap.size; omega) rfl rfl (by rw [hml]; exact led4.rm.rows (.ek n y)) (by rw [hml]; exact led4.rm.rows (.ev n y)) (by simp) (fun l hl => by
    obtain ⟨z, hz, rfl⟩ := List.mem_map.1 hl
    exact ⟨rfl, fun u hu => by simp [verV] at hu; rcases hu with rfl | rfl <;> rfl⟩) (led4.tst n y) (by rw [hml]; exact HLB.out.tb n y) (fun e => nvb _ ⟨_, e⟩ rfl) (fun e => nvb _ ⟨_, e⟩ rfl) ndk (by show B <= w4.heap.size; omega) hall)
   have HL4 := hid led4
   have HS4 := hid ses4
   have HK4 := hid ksp4
   have HB4 := hid b14
   clear hva ksp kvn kvb ksp4 kvn4 led4 ses4 b14 hb3 b13 hall hml
   rw [hek, hev] at hw4 ⊢
   rw [hw4] at q0 p0 p1
   go_wp2
   rw [<- hw4] at q0 p0 p1 ⊢
   have hz4a : w3.heap.size < w4.heap.size := by omega
   have hz3a : w1.heap.size + 1 < w3.heap.size := by omega
   clear hw4 hwb hz4 hzb
   refine wp_region_till_drew (S := (fun W => W.cell? ⟨sb, 0, none⟩ = some (.int .i64 (ck + 1)) /\ W.cell? ⟨w1.heap.size + 1, 0, none⟩ = some (.int .i64 v) /\ W.cell? ⟨w1.heap.size + 1, 1, none⟩ = some (.bool b))) (late := []) (by kernel_rfl) ⟨q0, p0, p1⟩ (fun hHeld => ?_)
   refine tT 0 rfl hHeld ?_
   try simp only [Act.put, q1, q2, q3]
   refine tT 1 rfl hHeld ?_
   try simp only [Act.put, q1, q2, q3]
   refine tT 2 rfl hHeld ?_
   try simp only [Act.put, q1, q2, q3]
   refine tT 3 rfl hHeld ?_
   try simp only [Act.put, q1, q2, q3]
   refine till_ld (i := 4) (v := ?_) rfl (Or.inl ⟨by rfl, ?_⟩) hHeld ?_
   rotate_left
   .intro w hSw
    try dsimp only at hSw
    go_simp
    try with_reducible rfl
   try simp only [Act.put, q1, q2, q3]
   refine till_ld (i := 5) (v := ?_) rfl (Or.inl ⟨by rfl, ?_⟩) hHeld ?_
   rotate_left
   .intro w hSw
    try dsimp only at hSw
    go_simp
    try with_reducible rfl
   try simp only [Act.put, q1, q2, q3]
   have hbl : ∀ g, ldF L1 g -> g < w1.heap.size := fun g hg => (HLE.out.rm.lt hg).2
   have hnsb := HSM.out.nsb
   refine rE 6 rfl fun K hK => ?_
   go_simp
   rw [hek, hev] at HP1
   refine HP1.out.mono ?_
   rintro e w5 ⟨kv', vv', r1, rfl, R1d⟩
   rw [<- hek, <- hev] at R1d
   have R1 := R1d.undrew
   clear R1d
   have n5 : ∀ g, g < w4.heap.size -> ¬ ldF L1 g -> g ≠ w3.heap.size -> w5.heap[g]? = w4.heap[g]? := fun g h1 h2 h3 => R1.fr.block g h1 (fun z => by
    rcases z with z | z | z
    .exact h3 z
    .exact h2 ⟨_, z⟩
    .exact h2 ⟨_, z⟩)
   have fsb := n5 sb (by omega) hnsb (by omega)
   have fvn := n5 (w1.heap.size + 1) (by omega) (fun z => by have := hbl _ z; omega) (by omega)
   have fsp := n5 w1.heap.size (by omega) (fun z => by have := hbl _ z; omega) (by omega)
   have q05 := (World.cell?_of_block (a := ⟨sb, 0, none⟩) fsb).trans q0
   have p05 := (World.cell?_of_block (a := ⟨w1.heap.size + 1, 0, none⟩) fvn).trans p0
   have p15 := (World.cell?_of_block (a := ⟨w1.heap.size + 1, 1, none⟩) fvn).trans p1
   have s0 : w5.cell? ⟨w1.heap.size, 0, none⟩ = some (.int .i64 (n : Int)) := (World.cell?_of_block (a := ⟨w1.heap.size, 0, none⟩) fsp).trans (HK4.out 0 (by simp)).1
   have s1 : w5.cell? ⟨w1.heap.size, 1, none⟩ = some (.int .i64 y) := (World.cell?_of_block (a := ⟨w1.heap.size, 1, none⟩) fsp).trans (HK4.out 1 (by simp)).1
   have kv0 : w5.cell? ⟨w3.heap.size, 0, none⟩ = some kv' := (R1.bk 0 (by simp)).1
   have kv1 : w5.cell? ⟨w3.heap.size, 1, none⟩ = some vv' := (R1.bk 1 (by simp)).1
   have hs5 := R1.fr.size
   have ses5 : Blk w5 sb (sesC (ck + 1) L1 op) := fun j hj => ⟨(World.cell?_of_block (a := ⟨sb, j, none⟩) fsb).trans (HS4.out j hj).1, (World.frozen?_of_block (a := ⟨sb, j, none⟩) fsb).trans (HS4.out j hj).2⟩
   have nt : ∀ i, i ≠ .ek n y -> i ≠ .ev n y -> w5.ownsRow B (lTy i) (lSz i) (L1 i) (lLen c1 i) (lCel L1 c1 i) := fun i h1 h2 => own_fr (HL4.out.rm.rows i) R1.fr (fun g hg z => by
    rcases z with z | z | z
    .exact nvb g ⟨_, hg⟩ z
    .exact h1 (HL4.out.rm.inj _ _ g hg z)
    .exact h2 (HL4.out.rm.inj _ _ g hg z))
   obtain ⟨fa, fm, fc, hkf⟩ : ∃ a m q, kv' = .slice a m q := by obtain ⟨a, q, e⟩ := formR R1.kr; exact ⟨_, _, _, e⟩
   obtain ⟨ga, gm, gc, hvf⟩ : ∃ a m q, vv' = .slice a m q := by obtain ⟨a, q, e⟩ := formR R1.vr; exact ⟨_, _, _, e⟩
   rw [hkf] at kv0 R1
   rw [hvf] at kv1 R1
   have HP2 := hid (put_vss B sb (1 + n * 2) (sesC (ck + 1) L1 op) (L1 (.tk n)) (L1 (.tv n)) (c1.K n) ((c1.K n).map (fun z => [L1 (.ek n z), L1 (.ev n z)])) y fa ga fm fc gm gc w5.drew ses5 (by show sb < w5.heap.size; omega) (by rw [sesC_at _ _ _ (by omega), sesAt_tk _ _ _ hn]) (by rw [sesC_at _ _ _ (by omega), sesAt_tv _ _ _ hn]) (nt (.tk n) (by simp) (by simp)) (by have := nt (.tv n) (by simp) (by simp); simp only [lTy, lSz, lLen, lCel, List.flatMap_def] at this; exact this) (by simp) (fun l hl => by
    obtain ⟨z, hz, rfl⟩ := List.mem_map.1 hl
    refine ⟨rfl, fun u hu => ?_⟩
    obtain ⟨⟨a1, a2, a3, e1⟩, b1, b2, b3, e2⟩ := HL4.out.ff n z
    simp only [List.mem_cons, List.not_mem_nil, or_false] at hu
    rcases hu with rfl | rfl
    .rw [e1]; rfl
    .rw [e2]; rfl) (HL4.out.srt n) (HLB.out.kb n) (fun e => hnsb ⟨_, e⟩) (fun e => hnsb ⟨_, e⟩) ndt (by show B <= w5.heap.size; omega))
   have HR1 := hid R1
   clear R1 nt n5 fsb fvn fsp ses5 hkf hvf
   refine hK _ _ ⟨⟨q05, p05, p15⟩, ?_⟩
   clear hK K HP1
   try simp only [Act.put, q1, q2, q3]
   refine till_done (by kernel_rfl) ?_ _
   clear q05 p05 p15 q0 p0 p1
   go_wp2
   refine wp_region_till_drew (S := (fun W => W.cell? ⟨w1.heap.size, 0, none⟩ = some (.int .i64 (n : Int)) /\ W.cell? ⟨w1.heap.size, 1, none⟩ = some (.int .i64 y) /\ W.cell? ⟨w3.heap.size, 0, none⟩ = some (.slice fa fm fc) /\ W.cell? ⟨w3.heap.size, 1, none⟩ = some (.slice ga gm gc))) (late := []) (by kernel_rfl) ⟨s0, s1, kv0, kv1⟩ (fun hHeld => ?_)
   refine tT 0 rfl hHeld ?_
   try simp only [Act.put, q1, q2, q3]
   refine tT 1 rfl hHeld ?_
   try simp only [Act.put, q1, q2, q3]
   refine till_ld (i := 2) (v := ?_) rfl (Or.inl ⟨by rfl, ?_⟩) hHeld ?_
   rotate_left
   .intro w hSw
    try dsimp only at hSw
    go_simp
    try with_reducible rfl
   try simp only [Act.put, q1, q2, q3]
   refine tT 3 rfl hHeld ?_
   try simp only [Act.put, q1, q2, q3]
   refine tT 4 rfl hHeld ?_
   try simp only [Act.put, q1, q2, q3]
   refine tT 5 rfl hHeld ?_
   try simp only [Act.put, q1, q2, q3]
   refine tT 6 rfl hHeld ?_
   try simp only [Act.put, q1, q2, q3]
   refine till_ld (i := 7) (v := ?_) rfl (Or.inl ⟨by rfl, ?_⟩) hHeld ?_
   rotate_left
   .intro w hSw
    try dsimp only at hSw
    go_simp
    try with_reducible rfl
   try simp only [Act.put, q1, q2, q3]
   refine till_ld (i := 8) (v := ?_) rfl (Or.inl ⟨by rfl, ?_⟩) hHeld ?_
   rotate_left
   .intro w hSw
    try dsimp only at hSw
    go_simp
    try with_reducible rfl
   try simp only [Act.put, q1, q2, q3]
   refine rE 9 rfl fun K hK => ?_
   go_simp
   refine HP2.out.mono ?_
   rintro e w6 ⟨kv2, vv2, r2, rfl, R2d⟩
   have R2 := R2d.undrew
   have HST := hid (HSM.out.step hn HM.out HND.out HI1.out HF1.out HLT.out HB4.out (by omega) hz4a HR1.out R2)
   have n6 : ∀ g, g < w5.heap.size -> ¬ ldF L1 g -> g ≠ sb -> w6.heap[g]? = w5.heap[g]? := fun g h1 h2 h3 => R2.fr.block g h1 (fun z => by
    rcases z with z | z | z
    .exact h3 z
    .exact h2 ⟨_, z⟩
    .exact h2 ⟨_, z⟩)
   have gsp := n6 w1.heap.size (by omega) (fun z => by have := hbl _ z; omega) (by omega)
   have gvb := n6 w3.heap.size (by omega) (fun z => by have := hbl _ z; omega) (by omega)
   have s06 := (World.cell?_of_block (a := ⟨w1.heap.size, 0, none⟩) gsp).trans s0
   have s16 := (World.cell?_of_block (a := ⟨w1.heap.size, 1, none⟩) gsp).trans s1
   have k06 := (World.cell?_of_block (a := ⟨w3.heap.size, 0, none⟩) gvb).trans kv0
   have k16 := (World.cell?_of_block (a := ⟨w3.heap.size, 1, none⟩) gvb).trans kv1
   clear R2d R2 n6 gsp gvb HP2
   refine hK _ _ ⟨⟨s06, s16, k06, k16⟩, ?_⟩
   clear hK K
   try simp only [Act.put, q1, q2, q3]
   refine till_done (by kernel_rfl) ?_ _
   obtain ⟨L2, c2, hs2, hl2⟩ := HST.out
   have HS2 := hid hs2
   clear hs2 HST s06 s16 k06 k16
   go_wp2
   go_roundw
   case rel => exact ⟨_, _, _, HS2⟩
   case measure => exact hl2
end Go.Proofs.YtblkgicbimflhaaGreat
namespace Go.Proofs.YtblkgicbimflhaaGreat
open Go.ChangeShapes Go.WideShapes Go.ChangeAt Go.RowKit
set_option linter.unusedVariables false
set_option linter.unusedSimpArgs false
set_option maxRecDepth 100000
set_option maxHeartbeats 16000000
def opn (x : Bas) (i : Nat) : Bool := (x.tx.getD i tx0).op
def foot (sb : Nat) (L : LIx -> Value) (x : Bas) (gh : Nat -> TG) (g : Nat) : Prop := g = sb \/ ldF L g \/ ∃ i, i < 4 /\ opn x i = true /\ trF (gh i) g
structure IMem (B sb : Nat) (w : World) (x : Bas) (L : LIx -> Value) (c : Led) (gh : Nat -> TG) (op : Nat -> Option Addr) : Prop where
 n4 : x.tx.length = 4
 led : LedM B w L c
 ses : Blk w sb (sesC x.ck L op)
 sl : sb < w.heap.size
 sB : B <= sb
 cT : ∀ k y, c.T k y = if k < 32 then versC x.cms (k : Int) y else []
 cH : c.hs = x.hs
 tr : ∀ i, i < 4 -> opn x i = true -> op (i + 1) = some ⟨(gh i).g, 0, none⟩ /\ TrM B w (gh i) (x.tx.getD i tx0)
 no : ∀ i, i < 4 -> opn x i = false -> op (i + 1) = none
 ns : ¬ ldF L sb
 dl : ∀ i, i < 4 -> opn x i = true -> ∀ b, trF (gh i) b -> ¬ ldF L b /\ b ≠ sb
 dt : ∀ i j, i < 4 -> j < 4 -> i ≠ j -> opn x i = true -> opn x j = true -> ∀ b, trF (gh i) b -> ¬ trF (gh j) b
 cs : ∀ m ∈ x.cms, m.st <= x.ck
theorem IMem.fr {B sb : Nat} {S : Nat -> Prop} {w w' : World} {x : Bas} {L : LIx -> Value} {c : Led} {gh : Nat -> TG} {op : Nat -> Option Addr} (h : IMem B sb w x L c gh op) (hk : Fr S w w') (hS : ∀ g, foot sb L x gh g -> ¬ S g) : IMem B sb w' x L c gh op :=
 ⟨h.n4, h.led.fr hk (fun g hg => hS g (.inr (.inl hg))), h.ses.fr hk h.sl (hS _ (.inl rfl)), Nat.lt_of_lt_of_le h.sl hk.size, h.sB, h.cT, h.cH, fun i hi ho => ⟨(h.tr i hi ho).1, (h.tr i hi ho).2.fr hk (fun b hb => hS b (.inr (.inr ⟨i, hi, ho, hb⟩)))⟩, h.no, h.ns, h.dl, h.dt, h.cs⟩
theorem IMem.below {B sb : Nat} {w w' : World} {x : Bas} {L : LIx -> Value} {c : Led} {gh : Nat -> TG} {op : Nat -> Option Addr} (h : IMem B sb w x L c gh op) (hb : Below w.heap.size w w') : IMem B sb w' x L c gh op := h.fr (Fr.of_below (fun _ => False) hb) (fun _ _ z => z)
theorem IMem.lt {B sb : Nat} {w : World} {x : Bas} {L : LIx -> Value} {c : Led} {gh : Nat -> TG} {op : Nat -> Option Addr} (h : IMem B sb w x L c gh op) {g : Nat} (hg : foot sb L x gh g) : B <= g /\ g < w.heap.size := by
 rcases hg with z | z | ⟨i, hi, ho, z⟩
 .rw [z]; exact ⟨h.sB, h.sl⟩
 .exact h.led.rm.lt z
 .exact ⟨(h.tr i hi ho).2.ge g z, (h.tr i hi ho).2.lt z⟩
theorem sub_lenI : ∀ {D E : List Int}, D.Nodup -> (∀ d ∈ D, d ∈ E) -> D.length <= E.length
 | [], _, _, _ => Nat.zero_le _
 | d :: r, E, hn, hs => by
   obtain ⟨h1, h2⟩ := List.nodup_cons.1 hn
   have hd := hs d List.mem_cons_self
   have ih := sub_lenI (D := r) (E := E.erase d) h2 (fun x hx => by
    refine (List.mem_erase_of_ne (fun e => h1 (by rw [<- e]; exact hx))).2 (hs x (List.mem_cons_of_mem _ hx)))
   rw [List.length_erase_of_mem hd] at ih
   have : 0 < E.length := List.length_pos_of_mem hd
   rw [List.length_cons]
   omega
theorem sort_nodup {ks : List Int} (h : ks.Pairwise (· < ·)) : ks.Nodup := h.imp (fun h e => by omega)
theorem vers_cell {cms : List Com} {t y : Int} (h : versC cms t y ≠ []) : ∃ d ∈ cms.flatMap (·.cs), d.ky = y := by
 unfold versC at h
 obtain ⟨v, hv⟩ : ∃ v, v ∈ cms.filterMap (fun c => (newC c.cs t y).map (fun x => ((c.st, nrm x) : Ver))) := by
  cases hq : cms.filterMap (fun c => (newC c.cs t y).map (fun x => ((c.st, nrm x) : Ver))) with
  | nil => exact absurd hq h
  | cons a r => exact ⟨a, List.mem_cons_self⟩
 obtain ⟨c, hc, he⟩ := List.mem_filterMap.1 hv
 cases hq : newC c.cs t y with
 | none => rw [hq] at he; cases he
 | some d =>
   obtain ⟨h1, _, h3⟩ := newC_mem hq
   exact ⟨d, List.mem_flatMap.2 ⟨c, hc, h1⟩, h3⟩
theorem IMem.bnd {B sb : Nat} {w : World} {x : Bas} {L : LIx -> Value} {c : Led} {gh : Nat -> TG} {op : Nat -> Option Addr} (h : IMem B sb w x L c gh op) (hb : Bnd x) : LedB c /\ (∀ k, (c.K k).length <= 1000000) /\ ∀ k y, (c.T k y).length <= 1000 := by
 have h1 : ∀ k, (c.K k).length <= 1000000 := fun k => by
  have hk : (c.K k).length <= ((x.cms.flatMap (·.cs)).map (·.ky)).length := sub_lenI (sort_nodup (h.led.srt k)) (fun y hy => by
   have := (h.led.mem k y).1 hy
   rw [h.cT] at this
   by_cases e : k < 32
   .rw [if_pos e] at this
    obtain ⟨d, hd, rfl⟩ := vers_cell this
    exact List.mem_map_of_mem hd
   .rw [if_neg e] at this; exact absurd rfl this)
  rw [List.length_map] at hk
  have h2 := all_small hb.cc
  have h3 := hb.cl
  have : x.cms.length * 1000 <= 1000 * 1000 := Nat.mul_le_mul_right _ h3
  omega
 have h2 : ∀ k y, (c.T k y).length <= 1000 := fun k y => by
  rw [h.cT]
  split
  .unfold versC; exact Nat.le_trans (List.length_filterMap_le _ _) hb.cl
  .simp
 exact ⟨⟨fun k => by have := h1 k; omega, fun k y => by have := h2 k y; omega, by rw [h.cH]; exact hb.hl, by rw [h.cH]; exact hb.ht⟩, h1, h2⟩
theorem rel_len {M : List (Spt × Vsn)} {own : List Cel} (hr : RelM M own) (hn : (M.map Prod.fst).Nodup) : M.length <= own.length := by
 have := sub_len (D := M.map Prod.fst) (E := own.map (fun c => (c.tb, c.ky))) hn (fun d hd => by
  obtain ⟨m, hm, rfl⟩ := List.mem_map.1 hd
  obtain ⟨⟨a, y⟩, v⟩ := m
  obtain ⟨c, hc, rfl, rfl⟩ := (rel_mem hr hn).1 ⟨v, hm⟩
  exact List.mem_map_of_mem (f := fun c : Cel => (c.tb, c.ky)) hc)
 rw [List.length_map, List.length_map] at this
 exact this
theorem behind_any2 (vs : List Ver) (hs : (vs.map (·.1)).Pairwise (· < ·)) (bg : Int) : behindB (vs.map (·.1)) bg = vs.any (fun v => decide (bg < v.1)) := by
 rw [any_last hs]
 unfold behindB
 rw [List.getLast?_map]
 cases vs.getLast? <;> rfl
theorem IMem.conf {B sb : Nat} {w : World} {x : Bas} {L : LIx -> Value} {c : Led} {gh : Nat -> TG} {op : Nat -> Option Addr} (h : IMem B sb w x L c gh op) {M : List (Spt × Vsn)} {own : List Cel} {bg : Int} (hr : RelM M own) (hn : (M.map Prod.fst).Nodup) (hi : InT M) : M.any (fun m => behM c bg m.1) = conflictF x.cms bg own := by
 have e1 : ∀ m ∈ M, behM c bg m.1 = x.cms.any (fun k => decide (bg < k.st) && (newC k.cs m.1.1 m.1.2).isSome) := fun m hm => by
  have ht := hi m hm
  unfold behM
  rw [behind_any2 _ (h.led.tst _ _), h.cT, if_pos (by omega), vers_behind]
  rw [show ((m.1.1.toNat : Nat) : Int) = m.1.1 by omega]
 refine Bool.eq_iff_iff.2 ?_
 unfold conflictF clashC
 rw [List.any_eq_true, List.any_eq_true]
 constructor
 .rintro ⟨m, hm, hb⟩
  rw [e1 m hm] at hb
  obtain ⟨k, hk, hb2⟩ := List.any_eq_true.1 hb
  rw [Bool.and_eq_true] at hb2
  refine ⟨k, hk, ?_⟩
  rw [Bool.and_eq_true]
  refine ⟨hb2.1, List.any_eq_true.2 ?_⟩
  obtain ⟨⟨a, y⟩, v⟩ := m
  obtain ⟨d, hd, rfl, rfl⟩ := (rel_mem hr hn).1 ⟨v, hm⟩
  exact ⟨d, hd, hb2.2⟩
 .rintro ⟨k, hk, hb⟩
  rw [Bool.and_eq_true] at hb
  obtain ⟨d, hd, hs⟩ := List.any_eq_true.1 hb.2
  obtain ⟨v, hv⟩ := (rel_mem hr hn).2 ⟨d, hd, rfl, rfl⟩
  refine ⟨_, hv, ?_⟩
  rw [e1 _ hv]
  refine List.any_eq_true.2 ⟨k, hk, ?_⟩
  rw [Bool.and_eq_true]
  exact ⟨hb.1, hs⟩
theorem IMem.sees {B sb : Nat} {w : World} {x : Bas} {L : LIx -> Value} {c : Led} {gh : Nat -> TG} {op : Nat -> Option Addr} (h : IMem B sb w x L c gh op) {M : List (Spt × Vsn)} {own : List Cel} {bg : Int} (hr : RelM M own) {n : Nat} (hn : n < 32) (y : Int) : (mget M ((n : Int), y)).getD (verAt (c.T n y) bg) = seesN x.cms bg own (n : Int) y := by
 rw [hr, h.cT, if_pos hn]
 cases hq : newC own (n : Int) y with
 | some d => rw [seesN_own hq]; rfl
 | none => rw [seesN_com hq]; rfl
open Classical in
theorem set_opn (x : Bas) (i j : Nat) (t : Txn) (hi : i < x.tx.length) : (x.tx.set i t).getD j tx0 = if j = i then t else x.tx.getD j tx0 := by
 rw [List.getD_eq_getElem?_getD, List.getD_eq_getElem?_getD, List.getElem?_set]
 by_cases e : i = j
 .subst e; rw [if_pos rfl, if_pos hi, if_pos rfl]; rfl
 .rw [if_neg e, if_neg (fun z => e z.symm)]
theorem IMem.ended {B sb n : Nat} {w w1 : World} {x : Bas} {L : LIx -> Value} {c : Led} {gh : Nat -> TG} {op : Nat -> Option Addr} (h : IMem B sb w x L c gh op) (hn1 : 1 <= n) (hn2 : n <= 4) (ho : opn x (n - 1) = true) (hfr : Fr (trF (gh (n - 1))) w w1) :
 (∃ op', IMem B sb (w1.setCell ⟨sb, 66 + n, none⟩ (.pointer none)) { x with tx := x.tx.set (n - 1) tx0 } L c gh op') /\ Fr (foot sb L x gh) w (w1.setCell ⟨sb, 66 + n, none⟩ (.pointer none)) := by
 have hi : n - 1 < 4 := by omega
 have hx : n - 1 < x.tx.length := by rw [h.n4]; exact hi
 have f2 := Fr.setCell w1 sb (66 + n) (.pointer none)
 have hnb := fun z => (h.dl (n - 1) hi ho sb z).2 rfl
 have hop : ∀ j, opn { x with tx := x.tx.set (n - 1) tx0 } j = if j = n - 1 then false else opn x j := fun j => by
  unfold opn
  simp only
  rw [set_opn x (n - 1) j tx0 hx]
  split <;> rfl
 have hto : ∀ j, opn { x with tx := x.tx.set (n - 1) tx0 } j = true -> j ≠ n - 1 /\ opn x j = true := fun j hj => by
  rw [hop] at hj
  by_cases e : j = n - 1
  .rw [if_pos e] at hj; cases hj
  .rw [if_neg e] at hj; exact ⟨e, hj⟩
 refine ⟨⟨fun i => if i = n then none else op i, by simpa using h.n4, ?_, ?_, ?_, h.sB, h.cT, h.cH, fun j hj hjo => ?_, fun j hj hjo => ?_, h.ns, fun j hj hjo => ?_, fun j l hj hl hn hjo hlo => ?_, h.cs⟩, ?_⟩
 .exact (h.led.fr hfr (fun g hg z => (h.dl (n - 1) hi ho g z).1 hg)).fr f2 (fun g hg e => h.ns (by rw [<- (show g = sb from e)]; exact hg))
 .exact ses_open (h.ses.fr hfr h.sl hnb) n (by omega) none
 .have := hfr.size; have := h.sl; simp; omega
 .obtain ⟨e1, e2⟩ := hto j hjo
  obtain ⟨q1, q2⟩ := h.tr j hj e2
  have eg : (x.tx.set (n - 1) tx0).getD j tx0 = x.tx.getD j tx0 := by rw [set_opn x (n - 1) j tx0 hx, if_neg e1]
  rw [eg]
  refine ⟨(if_neg (by omega)).trans q1, (q2.fr hfr (fun b hb z => h.dt j (n - 1) hj hi e1 e2 ho b hb z)).fr f2 (fun b hb e => (h.dl j hj e2 b hb).2 e)⟩
 .by_cases e : j = n - 1
  .exact if_pos (by omega)
  .rw [hop, if_neg e] at hjo
   exact (if_neg (by omega)).trans (h.no j hj hjo)
 .exact h.dl j hj (hto j hjo).2
 .exact h.dt j l hj hl hn (hto j hjo).2 (hto l hlo).2
 .exact (hfr.mono (fun g z => .inr (.inr ⟨n - 1, hi, ho, z⟩))).trans (f2.mono (fun g z => .inl z))
theorem foot_end {sb n : Nat} {x : Bas} {L : LIx -> Value} {gh : Nat -> TG} {g : Nat} (hx : n - 1 < x.tx.length) (hg : foot sb L { x with tx := x.tx.set (n - 1) tx0 } gh g) : foot sb L x gh g := by
 rcases hg with z | z | ⟨j, hj, hjo, z⟩
 .exact .inl z
 .exact .inr (.inl z)
 .refine .inr (.inr ⟨j, hj, ?_, z⟩)
  unfold opn at hjo ⊢
  simp only at hjo
  rw [set_opn x (n - 1) j tx0 hx] at hjo
  by_cases e : j = n - 1
  .rw [if_pos e] at hjo; cases hjo
  .rw [if_neg e] at hjo; exact hjo
theorem end_any (B sb n : Nat) (w : World) (x : Bas) (L : LIx -> Value) (c : Led) (gh : Nat -> TG) (op : Nat -> Option Addr) (h : IMem B sb w x L c gh op) (hn1 : 1 <= n) (hn2 : n <= 4) (ho : opn x (n - 1) = true) :
 Calls Tryz.prog 48 #[.pointer (some ⟨sb, 0, none⟩), .int .i64 (n : Int)] w fun e w' => (∃ r, e = .returned r) /\ (∃ op', IMem B sb w' { x with tx := x.tx.set (n - 1) tx0 } L c gh op') /\ Fr (foot sb L x gh) w w' := by
 have hi : n - 1 < 4 := by omega
 have e1 : n - 1 + 1 = n := by omega
 obtain ⟨hop, hT⟩ := h.tr (n - 1) hi ho
 rw [e1] at hop
 obtain ⟨c0, f0⟩ := ses_cell h.ses (j := 66 + n) (by omega)
 rw [sesAt_op, hop] at c0
 have hni : (n : Int) < 5 := by omega
 have hsl := h.sl
 have HM := hid h
 have hgu := giveUp_any B w (gh (n - 1)) _ hT
 obtain ⟨gg, hgg⟩ : ∃ z, z = (gh (n - 1)).g := ⟨_, rfl⟩
 rw [<- hgg] at hgu c0
 clear hop hT h hgg
 go_enter Tryz.func48, Tryz.ntmps48
 go_wp2_with (go_at_call 72; fail)
 refine hgu.mono ?_
 rintro e w1 ⟨⟨r, rfl⟩, hfr⟩
 have hnb := fun z => (HM.out.dl (n - 1) hi ho sb z).2 rfl
 have hbk := hfr.block sb hsl hnb
 have c1 := (World.cell?_of_block (a := ⟨sb, 66 + n, none⟩) hbk).trans c0
 have f1 := (World.frozen?_of_block (a := ⟨sb, 66 + n, none⟩) hbk).trans f0
 have HE := hid (HM.out.ended hn1 hn2 ho hfr)
 clear hgu hfr hbk c0 f0 HM
 go_wp2
 go_end0
 exact ⟨⟨_, rfl⟩, HE.out⟩
theorem end_def (B sb n : Nat) (w : World) (x : Bas) (L : LIx -> Value) (c : Led) (gh : Nat -> TG) (op : Nat -> Option Addr) (h : IMem B sb w x L c gh op) (hn1 : 1 <= n) (hn2 : n <= 4) (ho : opn x (n - 1) = true) (u : FrameMode) :
 CallsD Tryz.prog 48 #[.pointer (some ⟨sb, 0, none⟩), .int .i64 (n : Int)] u w fun e u' w' => u' = u /\ (∃ r, e = .returned r) /\ (∃ op', IMem B sb w' { x with tx := x.tx.set (n - 1) tx0 } L c gh op') /\ Fr (foot sb L x gh) w w' := by
 have hi : n - 1 < 4 := by omega
 have e1 : n - 1 + 1 = n := by omega
 obtain ⟨hop, hT⟩ := h.tr (n - 1) hi ho
 rw [e1] at hop
 obtain ⟨c0, f0⟩ := ses_cell h.ses (j := 66 + n) (by omega)
 rw [sesAt_op, hop] at c0
 have hni : (n : Int) < 5 := by omega
 have hsl := h.sl
 have HM := hid h
 have hgu := giveUp_any B w (gh (n - 1)) _ hT
 obtain ⟨gg, hgg⟩ : ∃ z, z = (gh (n - 1)).g := ⟨_, rfl⟩
 rw [<- hgg] at hgu c0
 clear hop hT h hgg
 refine callsD_of_wp Tryz.func48 rfl ?_
 simp only [Tryz.ntmps48, List.size_toArray, List.length_cons, List.length_nil, Nat.reduceAdd, Nat.reduceSub, Array.replicate_succ, Array.replicate_zero, List.push_toArray, List.append_toArray, List.nil_append, List.cons_append]
 go_wp2_with (go_at_call 72; fail)
 refine hgu.mono ?_
 rintro e w1 ⟨⟨r, rfl⟩, hfr⟩
 have hnb := fun z => (HM.out.dl (n - 1) hi ho sb z).2 rfl
 have hbk := hfr.block sb hsl hnb
 have c1 := (World.cell?_of_block (a := ⟨sb, 66 + n, none⟩) hbk).trans c0
 have f1 := (World.frozen?_of_block (a := ⟨sb, 66 + n, none⟩) hbk).trans f0
 have HE := hid (HM.out.ended hn1 hn2 ho hfr)
 clear hgu hfr hbk c0 f0 HM
 go_wp2
 go_end0
 exact ⟨⟨_, rfl⟩, HE.out⟩
def AnsP (B sb : Nat) (w : World) (x : Bas) (L : LIx -> Value) (gh : Nat -> TG) (r : Bas × Obn) (e : Ending) (w' : World) : Prop := ∃ L' c' gh' op' pv, e = .returned (.agg #[.int .i64 r.2.code, .int .i64 r.2.vl, .int .i64 r.2.st, .bool r.2.fd, pv]) /\ Gr pairV 92 2 w.heap.size w' pv r.2.ps /\ IMem B sb w' r.1 L' c' gh' op' /\ Fr (foot sb L x gh) w w' /\ (∀ g, foot sb L' r.1 gh' g -> foot sb L x gh g \/ w.heap.size <= g) /\ (∀ g, pv.ownBlock = some g -> ¬ foot sb L' r.1 gh' g)
theorem nil_own : ∀ g, (Value.slice none 0 0).ownBlock = some g -> False := fun g h => by simp [Value.ownBlock] at h
theorem bad_commit {x : Bas} {i : Nat} {c : Led} {M : List (Spt × Vsn)} (hc : M.any (fun m => behM c (x.tx.getD i tx0).bg m.1) = conflictF x.cms (x.tx.getD i tx0).bg (x.tx.getD i tx0).own) (hh : c.hs = x.hs) (hv : verdM c x.ck M (x.tx.getD i tx0) ≠ 0) : commitF x i = ({ x with tx := x.tx.set i tx0 }, 0, verdM c x.ck M (x.tx.getD i tx0)) := by
 unfold verdM at hv ⊢
 rw [hc, hh] at hv ⊢
 unfold commitF
 simp only
 cases hq : conflictF x.cms (x.tx.getD i tx0).bg (x.tx.getD i tx0).own
 .rw [hq] at hv
  simp only [Bool.false_eq_true, if_false] at hv ⊢
  by_cases hm : (x.tx.getD i tx0).md = 2
  .rw [if_pos hm] at hv
   rw [if_pos ⟨hm, hv⟩, if_pos hm]
  .rw [if_neg hm] at hv; exact absurd rfl hv
 .simp
theorem good_commit {x : Bas} {i : Nat} {c : Led} {M : List (Spt × Vsn)} (hc : M.any (fun m => behM c (x.tx.getD i tx0).bg m.1) = conflictF x.cms (x.tx.getD i tx0).bg (x.tx.getD i tx0).own) (hh : c.hs = x.hs) (hv : verdM c x.ck M (x.tx.getD i tx0) = 0) : commitF x i = ({ ck := x.ck + 1, cms := x.cms ++ [⟨x.ck + 1, (x.tx.getD i tx0).own⟩], hs := if (x.tx.getD i tx0).md = 2 then x.hs ++ [infoF (x.tx.getD i tx0).bg (x.ck + 1) (x.tx.getD i tx0).own (x.tx.getD i tx0).rs] else x.hs, tx := x.tx.set i tx0 }, x.ck + 1, 0) := by
 unfold verdM at hv
 rw [hc, hh] at hv
 unfold commitF
 simp only
 cases hq : conflictF x.cms (x.tx.getD i tx0).bg (x.tx.getD i tx0).own
 .rw [hq] at hv
  simp only [Bool.false_eq_true, if_false] at hv ⊢
  rw [if_neg (fun z => by rw [if_pos z.1] at hv; exact z.2 hv)]
 .rw [hq] at hv; simp at hv
theorem IMem.settled {B sb i : Nat} {w w' : World} {x : Bas} {L : LIx -> Value} {c : Led} {gh : Nat -> TG} {op : Nat -> Option Addr} (h : IMem B sb w x L c gh op) (hi : i < 4) (ho : opn x i = true) (hs : SettP B sb w L c x.ck op (gh i) (x.tx.getD i tx0) w') :
 ∃ L' c', IMem B sb w' { x with ck := x.ck + 1, cms := x.cms ++ [⟨x.ck + 1, (x.tx.getD i tx0).own⟩], hs := if (x.tx.getD i tx0).md = 2 then x.hs ++ [infoF (x.tx.getD i tx0).bg (x.ck + 1) (x.tx.getD i tx0).own (x.tx.getD i tx0).rs] else x.hs } L' c' gh op /\ (∀ g, ldF L' g -> ldF L g \/ w.heap.size <= g) /\ Fr (foot sb L x gh) w w' := by
 obtain ⟨L', c', q1, q2, q3, q4, q5, q6⟩ := hs
 have hT := (h.tr i hi ho).2
 refine ⟨L', c', ⟨h.n4, q1, q2, Nat.lt_of_lt_of_le h.sl q6.size, h.sB, fun k y => ?_, ?_, fun j hj hjo => ?_, h.no, fun z => ?_, fun j hj hjo b hb => ?_, h.dt, fun m hm => ?_⟩, q5, q6.mono (fun g z => ?_)⟩
 .rw [q3, h.cT]
  by_cases e : k < 32
  .rw [if_pos e, if_pos e, vers_snoc]
   congr 1
   unfold newV
   rw [hT.mr]
   cases newC (x.tx.getD i tx0).own (k : Int) y <;> rfl
  .rw [if_neg e, if_neg e]
   unfold newV
   have : mget (gh i).M ((k : Int), y) = none := by
    cases hq : mget (gh i).M ((k : Int), y) with
    | none => rfl
    | some v => have := hT.mi _ (mget_some hq); simp only at this; omega
   rw [this]
   rfl
 .rw [q4, h.cH]
 .obtain ⟨a1, a2⟩ := h.tr j hj hjo
  exact ⟨a1, a2.fr q6 (fun b hb z => by
   rcases z with z | z
   .exact (h.dl j hj hjo b hb).2 z
   .exact (h.dl j hj hjo b hb).1 z)⟩
 .rcases q5 sb z with a | a
  .exact h.ns a
  .have := h.sl; omega
 .refine ⟨fun z => ?_, (h.dl j hj hjo b hb).2⟩
  rcases q5 b z with a | a
  .exact (h.dl j hj hjo b hb).1 a
  .have := (h.tr j hj hjo).2.lt hb; omega
 .rcases List.mem_append.1 hm with a | a
  .have := h.cs m a; simp only; omega
  .rw [List.mem_singleton] at a; rw [a]; exact Int.le_refl _
 .rcases z with z | z
  .exact .inl z
  .exact .inr (.inl z)
def obsC (a b d : Int) (f : Bool) (pv : Value) : List Value := [.int .i64 a, .int .i64 b, .int .i64 d, .bool f, pv]
theorem chg_5 (w : World) (g : Nat) (a b d : Value) (f pv : Value) : Fr (fun q => q = g) w (set5 w g a b d f pv) := ((((Fr.setCell w g 0 a).trans (Fr.setCell _ g 1 b)).trans (Fr.setCell _ g 2 d)).trans (Fr.setCell _ g 3 f)).trans (Fr.setCell _ g 4 pv)
theorem Fr.drewR {S : Nat -> Prop} {w w' : World} (h : Fr S w w') : Fr S w w'.drew := ⟨h.os, h.tape, h.output, h.size, h.block⟩
theorem Blk.drewR {w : World} {b : Nat} {cs : List Value} (h : Blk w b cs) : Blk w.drew b cs := h
theorem blk_set5 {w : World} {g : Nat} {a b d f pv : Value} {cs : List Value} (h : Blk w g cs) (hl : cs.length = 5) : Blk (set5 w g a b d f pv) g [a, b, d, f, pv] := by
 have h1 := ((((h.set 0 a (by omega)).set 1 b (by simp; omega)).set 2 d (by simp; omega)).set 3 f (by simp; omega)).set 4 pv (by simp; omega)
 match cs, hl with
 | [_, _, _, _, _], _ => exact h1
theorem commit_any (B sb n : Nat) (w : World) (x : Bas) (L : LIx -> Value) (c : Led) (gh : Nat -> TG) (op : Nat -> Option Addr) (h : IMem B sb w x L c gh op) (hb : Bnd x) (hck : x.ck < 1000) (hhl : x.hs.length < 1000) (hB : B <= w.heap.size) (hn1 : 1 <= n) (hn2 : n <= 4) (ho : opn x (n - 1) = true) :
 Calls Tryz.prog 47 #[.pointer (some ⟨sb, 0, none⟩), .int .i64 (n : Int)] w fun e w' => AnsP B sb w x L gh ((commitF x (n - 1)).1, ⟨(commitF x (n - 1)).2.2, 0, (commitF x (n - 1)).2.1, false, []⟩) e w' := by
 have hi : n - 1 < 4 := by omega
 have e1 : n - 1 + 1 = n := by omega
 obtain ⟨LB, kb, tb⟩ := h.bnd hb
 obtain ⟨w0, hw0⟩ : ∃ z, z = w.alloc (.cells #[.int .i64 0, .int .i64 0, .int .i64 0, .bool false, .slice none 0 0] 38) := ⟨_, rfl⟩
 have hb0 : Below w.heap.size w w0 := by rw [hw0]; exact below_alloc _ _
 have hz0 : w0.heap.size = w.heap.size + 1 := by rw [hw0]; simp
 have K0 : Blk w0 w.heap.size (obsC 0 0 0 false (.slice none 0 0)) := by rw [hw0]; exact blk_new w (obsC 0 0 0 false (.slice none 0 0)) 38
 have h0 := h.below hb0
 obtain ⟨hop, hT⟩ := h0.tr (n - 1) hi ho
 rw [e1] at hop
 have hT' := (h.tr (n - 1) hi ho).2
 obtain ⟨c0, _⟩ := ses_cell h.ses (j := 66 + n) (by omega)
 rw [sesAt_op, hop] at c0
 have hni : (n : Int) < 5 := by omega
 have hsl := h.sl
 have hck0 := hb.ck.1
 have hml : (gh (n - 1)).M.length <= 1000 := Nat.le_trans (rel_len hT.mr hT.mp.nodup) (hb.ow _ (by
  rw [List.getD_eq_getElem?_getD, List.getElem?_eq_getElem (by rw [h.n4]; exact hi)]
  exact List.getElem_mem _))
 have hcf := h0.conf (bg := (x.tx.getD (n - 1) tx0).bg) hT.mr hT.mp.nodup hT.mi
 have hve := verdict_any B sb w0 L c x.ck op (gh (n - 1)) (x.tx.getD (n - 1) tx0) h0.led LB h0.ses h0.sl hT hck0 (by omega)
 have HM := hid h
 have H0 := hid h0
 have HK0 := hid K0
 have HLB := hid LB
 have HCF := hid hcf
 have HCH := hid h.cH
 obtain ⟨gg, hgg⟩ : ∃ z, z = (gh (n - 1)).g := ⟨_, rfl⟩
 obtain ⟨vv, hvv⟩ : ∃ z, z = verdM c x.ck (gh (n - 1)).M (x.tx.getD (n - 1) tx0) := ⟨_, rfl⟩
 rw [<- hgg] at c0 hve
 rw [<- hvv] at hve
 have HVV := hid hvv
 have HGG := hid hgg
 have hz1 : w.heap.size < w0.heap.size := by omega
 have hnr : ¬ foot sb L x gh w.heap.size := fun z => by have := (h.lt z).2; omega
 have HNR := hid hnr
 clear hop hT hT' h h0 hgg hvv hcf K0 LB hnr hz0
 rw [hw0] at hve
 go_enter_defers Tryz.func47, Tryz.ntmps47
 go_wp2_with (go_at_call 70; fail)
 refine hve.mono ?_
 rw [<- hw0]
 rintro e w1 ⟨rfl, hb1⟩
 have b1 : Below w.heap.size w w1 := hb0.trans (hb1.mono hb0.size)
 have hs1 := hb1.size
 have H1 := hid (H0.out.below hb1)
 have K1 := HK0.out.below hb1 hz1
 obtain ⟨⟨r0, s0⟩, ⟨r1, s1⟩, ⟨r2, s2⟩, ⟨r3, s3⟩, ⟨r4, s4⟩⟩ := kb4 K1
 have hlw : w.heap.size < w1.heap.size := by omega
 clear hve hb0 hb1 HK0 H0 hw0 hs1
 by_cases hv0 : vv = 0
 .have HCO := hid (good_commit HCF.out HCH.out (by rw [<- HVV.out]; exact hv0))
  have hvb : (vv != 0) = false := by simpa using hv0
  have hm1 := H1.out
  obtain ⟨hop1, hT1⟩ := hm1.tr (n - 1) hi ho
  have hst : ∀ k y z, z ∈ c.T k y -> z.1 <= x.ck := fun k y z hz => by
   rw [hm1.cT] at hz
   by_cases e : k < 32
   .rw [if_pos e] at hz
    unfold versC at hz
    obtain ⟨m, hm, he⟩ := List.mem_filterMap.1 hz
    cases hq : newC m.cs (k : Int) y with
    | none => rw [hq] at he; cases he
    | some d => rw [hq] at he; simp at he; rw [<- he]; exact hm1.cs m hm
   .rw [if_neg e] at hz; cases hz
  have hse : Calls Tryz.prog 71 #[.pointer (some ⟨sb, 0, none⟩), .pointer (some ⟨gg, 0, none⟩)] w1 fun e w' => (∃ r, e = .returned r) /\ SettP B sb w1 L c x.ck op (gh (n - 1)) (x.tx.getD (n - 1) tx0) w' := by
   rw [HGG.out]
   by_cases hmd : (x.tx.getD (n - 1) tx0).md = 2
   .exact settle_2 B sb w1 L c x.ck op (gh (n - 1)) (x.tx.getD (n - 1) tx0) hm1.led HLB.out hm1.ses hm1.sl hT1 hck0 (by omega) (by omega) hm1.ns (hm1.dl (n - 1) hi ho) hst (fun k => by have := kb k; omega) (fun k y => by have := tb k y; omega) (by rw [HCH.out]; exact hhl) hmd
   .exact settle_1 B sb w1 L c x.ck op (gh (n - 1)) (x.tx.getD (n - 1) tx0) hm1.led HLB.out hm1.ses hm1.sl hT1 hck0 (by omega) (by omega) hm1.ns (hm1.dl (n - 1) hi ho) hst (fun k => by have := kb k; omega) (fun k y => by have := tb k y; omega) hmd
  have HK1 := hid K1
  clear hm1 hT1 hop1 hst K1 r0 r1 r2 r3 r4 s0 s1 s2 s3 s4
  subst hv0
  go_wp2_with (go_at_call 71; fail)
  refine hse.mono ?_
  rintro e w2 ⟨⟨r, rfl⟩, hsp⟩
  obtain ⟨L', c', hM2, hld, hfr2⟩ := H1.out.settled hi ho hsp
  have hs2 := hfr2.size
  have K2 := HK1.out.fr hfr2 hlw HNR.out
  obtain ⟨⟨r0, s0⟩, ⟨r1, s1⟩, ⟨r2, s2⟩, ⟨r3, s3⟩, ⟨r4, s4⟩⟩ := kb4 K2
  have q0 := (ses_cell hM2.ses (j := 0) (by omega)).1
  rw [sesAt_0] at q0
  simp only at q0
  have hlw2 : w.heap.size < w2.heap.size := by omega
  have hn1b : ¬ w.heap.size = sb := by omega
  have hn2b : ¬ sb = w.heap.size := by omega
  have HM2 := hid hM2
  have HLD := hid hld
  have HFR := hid hfr2
  have HK2 := hid K2
  clear hse hsp hM2 hld hfr2 K2 HK1
  obtain ⟨W3, hW3⟩ : ∃ z, z = ((set5 w2 w.heap.size (.int .i64 0) (.int .i64 0) (.int .i64 0) (.bool false) (.slice none 0 0)).setCell ⟨w.heap.size, 2, none⟩ (.int .i64 (x.ck + 1))).drew := ⟨_, rfl⟩
  have f3 : Fr (fun q => q = w.heap.size) w2 W3 := by
   have f := (chg_5 w2 w.heap.size (.int .i64 0) (.int .i64 0) (.int .i64 0) (.bool false) (.slice none 0 0)).trans (Fr.setCell _ w.heap.size 2 (.int .i64 (x.ck + 1)))
   rw [hW3]
   exact f.drewR
  have K3 : Blk W3 w.heap.size (obsC 0 0 (x.ck + 1) false (.slice none 0 0)) := by
   have k := (blk_set5 (a := .int .i64 0) (b := .int .i64 0) (d := .int .i64 0) (f := .bool false) (pv := .slice none 0 0) HK2.out rfl).set 2 (.int .i64 (x.ck + 1)) (by simp)
   rw [hW3]
   exact k.drewR
  have hnr2 : ∀ g, foot sb L' { x with ck := x.ck + 1, cms := x.cms ++ [⟨x.ck + 1, (x.tx.getD (n - 1) tx0).own⟩], hs := if (x.tx.getD (n - 1) tx0).md = 2 then x.hs ++ [infoF (x.tx.getD (n - 1) tx0).bg (x.ck + 1) (x.tx.getD (n - 1) tx0).own (x.tx.getD (n - 1) tx0).rs] else x.hs } gh g -> foot sb L x gh g \/ w1.heap.size <= g := fun g hg => by
   rcases hg with z | z | z
   .exact .inl (.inl z)
   .rcases HLD.out g z with q | q
    .exact .inl (.inr (.inl q))
    .exact .inr q
   .exact .inl (.inr (.inr z))
  have hnr3 : ¬ foot sb L' { x with ck := x.ck + 1, cms := x.cms ++ [⟨x.ck + 1, (x.tx.getD (n - 1) tx0).own⟩], hs := if (x.tx.getD (n - 1) tx0).md = 2 then x.hs ++ [infoF (x.tx.getD (n - 1) tx0).bg (x.ck + 1) (x.tx.getD (n - 1) tx0).own (x.tx.getD (n - 1) tx0).rs] else x.hs } gh w.heap.size := fun z => by
   rcases hnr2 _ z with q | q
   .exact HNR.out q
   .omega
  have HNN := hid hnr3
  have HN2 := hid hnr2
  have H3 := hid (HM2.out.fr f3 (fun g hg e => hnr3 (by rw [<- e]; exact hg)))
  have HK3 := hid K3
  have hz3 : w.heap.size < W3.heap.size := Nat.lt_of_lt_of_le hlw2 f3.size
  have HF3 := hid (((Fr.of_below (foot sb L x gh) b1).trans HFR.out).then f3 (fun g e => .inr (by rw [e]; exact Nat.le_refl _)))
  unfold set5 at hW3
  clear K3 f3 hnr2 hnr3 HM2 HLD HK2 HFR
  go_wp2
  go_region
  rw [<- hW3]
  clear hW3 r0 r1 r2 r3 r4 s0 s1 s2 s3 s4 q0
  go_wp2
  unfold bodyPostD
  refine leaves_cons (f := 48) (args := #[.pointer (some ⟨sb, 0, none⟩), .int .i64 (n : Int)]) (by simp) (by simp [go_sem]) ?_
  refine (end_def B sb n W3 _ L' c' gh op H3.out hn1 hn2 ho .returning).mono ?_
  rintro e u' w' ⟨rfl, ⟨r, rfl⟩, ⟨op', hM'⟩, hfr⟩
  have K4 := HK3.out.fr hfr hz3 HNN.out
  obtain ⟨t0, t1, t2, t3, t4⟩ := kc4 K4
  refine ⟨.agg #[.int .i64 0, .int .i64 0, .int .i64 (x.ck + 1), .bool false, .slice none 0 0], by simp [results, Tryz.results47, go_sem, t0, t1, t2, t3, t4], ?_⟩
  rw [HCO.out]
  refine ⟨L', c', gh, op', .slice none 0 0, rfl, gr_nil _ _ _ _ _, hM', HF3.out.then hfr (fun g hg => ?_), fun g hg => ?_, fun g hg => (nil_own g hg).elim⟩
  .rcases HN2.out g hg with q | q
   .exact .inl q
   .exact .inr (by omega)
  .rcases HN2.out g (foot_end (by rw [HM.out.n4]; exact hi) hg) with q | q
   .exact .inl q
   .exact .inr (by omega)
 .have hvb : (vv != 0) = true := by simpa using hv0
  have HCO := hid (bad_commit HCF.out HCH.out (by rw [<- HVV.out]; exact hv0))
  obtain ⟨W2, hW2⟩ : ∃ z, z = set5 w1 w.heap.size (.int .i64 vv) (.int .i64 0) (.int .i64 0) (.bool false) (.slice none 0 0) := ⟨_, rfl⟩
  have f2 : Fr (fun q => q = w.heap.size) w1 W2 := by rw [hW2]; exact chg_5 _ _ _ _ _ _ _
  have H2 := hid (H1.out.fr f2 (fun g hg e => HNR.out (by rw [<- e]; exact hg)))
  have K2 : Blk W2 w.heap.size (obsC vv 0 0 false (.slice none 0 0)) := by rw [hW2]; exact blk_set5 K1 rfl
  have HK2 := hid K2
  have hz2 : w.heap.size < W2.heap.size := Nat.lt_of_lt_of_le hlw f2.size
  have HF2 := hid ((Fr.of_below (foot sb L x gh) b1).then f2 (fun g e => .inr (by rw [e]; exact Nat.le_refl _)))
  unfold set5 at hW2
  clear K2 K1 f2
  go_wp2
  rw [<- hW2]
  unfold bodyPostD
  refine leaves_cons (f := 48) (args := #[.pointer (some ⟨sb, 0, none⟩), .int .i64 (n : Int)]) (by simp) (by simp [go_sem]) ?_
  refine (end_def B sb n W2 x L c gh op H2.out hn1 hn2 ho .returning).mono ?_
  rintro e u' w' ⟨rfl, ⟨r, rfl⟩, ⟨op', hM'⟩, hfr⟩
  have K3 := HK2.out.fr hfr hz2 HNR.out
  obtain ⟨t0, t1, t2, t3, t4⟩ := kc4 K3
  refine ⟨.agg #[.int .i64 vv, .int .i64 0, .int .i64 0, .bool false, .slice none 0 0], by simp [results, Tryz.results47, go_sem, t0, t1, t2, t3, t4], ?_⟩
  rw [HCO.out, <- HVV.out]
  exact ⟨L, c, gh, op', .slice none 0 0, rfl, gr_nil _ _ _ _ _, hM', HF2.out.trans hfr, fun g hg => .inl (foot_end (by rw [HM.out.n4]; exact hi) hg), fun g hg => (nil_own g hg).elim⟩
end Go.Proofs.YtblkgicbimflhaaGreat
namespace Go.Proofs.YtblkgicbimflhaaGreat
open Go.ChangeShapes Go.WideShapes Go.ChangeAt Go.RowKit
set_option linter.unusedVariables false
set_option linter.unusedSimpArgs false
set_option maxRecDepth 100000
set_option maxHeartbeats 16000000
open Go.Shelf
attribute [local go_sem] Oper.semAt_some
def KIn (S : Nat -> Prop) (W W' : World) : Prop := ∀ b, S b -> W'.heap[b]? = W.heap[b]?
theorem KIn.refl (S : Nat -> Prop) (W : World) : KIn S W W := fun _ _ => rfl
theorem KIn.trans {S : Nat -> Prop} {A B C : World} (h : KIn S A B) (k : KIn S B C) : KIn S A C := fun b hb => (k b hb).trans (h b hb)
theorem KIn.put {S : Nat -> Prop} {W : World} {l : Nat} {o : Obj} (h : ¬ S l) : KIn S W (W.putObj l o) := fun b hb => World.putObj_heap_other (fun e => h (by rw [<- e]; exact hb))
theorem KIn.of_fr {S T : Nat -> Prop} {W W' : World} (h : Fr T W W') (hs : ∀ b, S b -> b < W.heap.size /\ ¬ T b) : KIn S W W' := fun b hb => h.block b (hs b hb).1 (hs b hb).2
def encP (x : Int × Int) : Array Value := #[.int .i64 x.1, .int .i64 x.2]
def encV (f : Int -> Value × Value) (ks : List Int) (x : { y : Int // y ∈ ks }) : Array Value := #[.int .i64 x.1, .agg #[(f x.1).1, (f x.1).2]]
theorem all1_ii (F : Fence) (m : Nat) (h6 : F.fn 83) (hro : F.round = none) (hm : 1 <= m) (l Bs ob oo : Nat) (B : Nat) (S : Nat -> Prop) (ks us : List Int) (hul : us.length = ks.length) (kv vv : Value) (hBs : S Bs) (hob : S ob) (hkS : ∀ g, kv.ownBlock = some g -> S g) (hvS : ∀ g, vv.ownBlock = some g -> S g) (hn : ks.length <= 1048576) (J Jx : List (Int × Int) -> World -> Prop)
 (hY : ∀ pre x W, J pre W -> pre.length < ks.length -> YieldAt F (m - 1) Tryz.prog l (encP x) W fun e W' =>
  (e = .returned (.bool true) /\ J (pre ++ [x]) W' /\ KIn S W W') \/ (e = .returned (.bool false) /\ Jx (pre ++ [x]) W'))
 (W : World) (c0 : W.cell? ⟨Bs, 0, none⟩ = some (.pointer (some ⟨ob, oo, none⟩))) (c1 : W.cell? ⟨ob, oo, none⟩ = some kv) (c2 : W.cell? ⟨ob, oo + 1, none⟩ = some vv) (hK : W.ownsRow B 3 1 kv ks.length (ks.map (Value.int .i64))) (hV : W.ownsRow B 3 1 vv ks.length (us.map (Value.int .i64))) (h0 : J [] W) :
 CallsIn F m Tryz.prog 83 #[.func (.yield l) #[] #[], .pointer (some ⟨Bs, 0, none⟩)] W fun e W' => (∃ v, e = .returned v) /\
  ((∃ ys, ys = ks.zip us /\ J ys W') \/ (∃ pre, True /\ Jx pre W')) := by
 refine callsIn_of_wp Tryz.func83 rfl h6 ?_ hro
 simp only [Tryz.ntmps83, List.size_toArray, List.length_cons, List.length_nil, Nat.reduceAdd, Nat.reduceSub, Array.replicate_succ, Array.replicate_zero, List.push_toArray, List.append_toArray, List.nil_append, List.cons_append]
 obtain ⟨ka, kc, hkf⟩ := formR hK
 obtain ⟨va, vc, hvf⟩ := formR hV
 have HK := hid hK
 have HV := hid hV
 rw [hkf] at c1
 rw [hvf] at c2
 have HL : Hid ((ks.zip us).length = ks.length) := hid (by rw [List.length_zip, hul, Nat.min_self])
 clear hK hV
 gi_wp2
 gi_loopw [10] (fun i wr => ∃ k : Nat, k <= ks.length /\ i = .int .i64 k /\ Hid (J ((ks.zip us).take k) wr) /\ Hid (KIn S W wr)) (fun i _ => ks.length - (intOf i).toNat)
 case atStart => exact ⟨0, Nat.zero_le _, rfl, h0, KIn.refl _ _⟩
 case round =>
  obtain ⟨k, hk, rfl, HJ, HKI⟩ := hrel
  by_cases hlt : k < ks.length
  .have hlti : (k : Int) < ks.length := by omega
   obtain ⟨kg, kc2, ke, _, _, _⟩ := own_shape HK.out (by omega)
   obtain ⟨vg, vc2, ve, _, _, _⟩ := own_shape HV.out (by omega)
   rw [hkf] at ke
   rw [hvf] at ve
   injection ke with ke _ ke3
   injection ve with ve _ ve3
   subst ke ve ke3 ve3
   have hil : k < (ks.zip us).length := by rw [HL.out]; exact hlt
   have HTK : Hid ((ks.zip us).take (k + 1) = (ks.zip us).take k ++ [(ks.zip us)[k]]) := hid (by rw [List.take_add_one, List.getElem?_eq_getElem hil]; rfl)
   have k0 := (World.cell?_of_block (a := ⟨Bs, 0, none⟩) (HKI.out Bs hBs)).trans c0
   have k2 := (World.cell?_of_block (a := ⟨ob, oo + 1, none⟩) (HKI.out ob hob)).trans c2
   have k3 : wr.cell? ⟨kg, k, none⟩ = some (.int .i64 ks[k]) := (World.cell?_of_block (a := ⟨kg, k, none⟩) (HKI.out kg (hkS kg (by rw [hkf]; rfl)))).trans (own_cells HK.out hkf (by rw [List.getElem?_map, List.getElem?_eq_getElem hlt]; rfl))
   have hu : k < us.length := by omega
   have k4 : wr.cell? ⟨vg, k, none⟩ = some (.int .i64 us[k]) := (World.cell?_of_block (a := ⟨vg, k, none⟩) (HKI.out vg (hvS vg (by rw [hvf]; rfl)))).trans (own_cells HV.out hvf (by rw [List.getElem?_map, List.getElem?_eq_getElem hu]; rfl))
   obtain ⟨fn, tmps, assign, body, hy, hR⟩ := hY _ ((ks.zip us)[k]) wr HJ.out (by rw [List.length_take]; omega)
   rw [<- HTK.out] at hR
   have hit : (ks.zip us)[k] = (ks[k], us[k]) := List.getElem_zip
   rw [hit] at hy
   unfold encP at hy
   dsimp only at hy
   clear hit
   generalize ks[k] = kk at *
   generalize us[k] = uu at *
   clear HTK hil HJ
   gi_wp2
   refine hR.mono ?_
   rintro e W3 (⟨rfl, hJ3, hk3⟩ | ⟨rfl, hJx3⟩)
   .have HJ3 := hid hJ3
    have HK3 := hid (HKI.out.trans hk3)
    clear hy hR hJ3 hk3 HKI
    gi_wp2
    go_roundw
    case rel => exact ⟨k + 1, by omega, by go_num, HJ3, HK3⟩
    case measure => simp [intOf]; omega
   .clear hy hR
    gi_wp2
    refine bodyPost_ret (results_none rfl _ _ _) rfl ?_
    exact ⟨⟨_, rfl⟩, .inr ⟨_, trivial, hJx3⟩⟩
  .obtain rfl : k = ks.length := by omega
   have hJ := HJ.out
   rw [List.take_of_length_le (by rw [HL.out]; exact Nat.le_refl _)] at hJ
   have HJ2 := hid hJ
   have hlti : ¬ (ks.length : Int) < ks.length := by omega
   clear HJ hJ
   gi_wp2
   go_end0
   exact ⟨⟨_, rfl⟩, .inl HJ2.out⟩
theorem all_in_ii (F : Fence) (m : Nat) (h5 : F.fn 66) (hro : F.round = none) (ob oo : Nat) (w : World) :
 CallsIn F m Tryz.prog 66 #[.pointer (some ⟨ob, oo, none⟩)] w fun e w' => e = .returned (.func (.func 83) #[] #[.pointer (some ⟨w.heap.size, 0, none⟩)]) /\ w' = w.alloc (.cells #[.pointer (some ⟨ob, oo, none⟩)] 176) := by
 refine callsIn_of_wp Tryz.func66 rfl h5 ?_ hro
 simp only [Tryz.ntmps66, List.size_toArray, List.length_cons, List.length_nil, Nat.reduceAdd, Nat.reduceSub, Array.replicate_succ, Array.replicate_zero, List.push_toArray, List.append_toArray, List.nil_append, List.cons_append]
 gi_wp2
 go_ret
 exact ⟨rfl, rfl⟩
theorem all1_iv (F : Fence) (m : Nat) (h6 : F.fn 84) (hro : F.round = none) (hm : 1 <= m) (l Bs ob oo : Nat) (B : Nat) (S : Nat -> Prop) (ks : List Int) (f : Int -> Value × Value) (hff : ∀ y, (∃ a n c, (f y).1 = .slice a n c) /\ ∃ a n c, (f y).2 = .slice a n c) (kv vv : Value) (hBs : S Bs) (hob : S ob) (hkS : ∀ g, kv.ownBlock = some g -> S g) (hvS : ∀ g, vv.ownBlock = some g -> S g) (hn : ks.length <= 1048576) (J Jx : List { y : Int // y ∈ ks } -> World -> Prop)
 (hY : ∀ pre x W, J pre W -> pre.length < ks.length -> YieldAt F (m - 1) Tryz.prog l ((encV f ks) x) W fun e W' =>
  (e = .returned (.bool true) /\ J (pre ++ [x]) W' /\ KIn S W W') \/ (e = .returned (.bool false) /\ Jx (pre ++ [x]) W'))
 (W : World) (c0 : W.cell? ⟨Bs, 0, none⟩ = some (.pointer (some ⟨ob, oo, none⟩))) (c1 : W.cell? ⟨ob, oo, none⟩ = some kv) (c2 : W.cell? ⟨ob, oo + 1, none⟩ = some vv) (hK : W.ownsRow B 3 1 kv ks.length (ks.map (Value.int .i64))) (hV : W.ownsRow B 155 2 vv ks.length (ks.flatMap (fun y => [(f y).1, (f y).2]))) (h0 : J [] W) :
 CallsIn F m Tryz.prog 84 #[.func (.yield l) #[] #[], .pointer (some ⟨Bs, 0, none⟩)] W fun e W' => (∃ v, e = .returned v) /\
  ((∃ ys, ys = ks.attach /\ J ys W') \/ (∃ pre, True /\ Jx pre W')) := by
 refine callsIn_of_wp Tryz.func84 rfl h6 ?_ hro
 simp only [Tryz.ntmps84, List.size_toArray, List.length_cons, List.length_nil, Nat.reduceAdd, Nat.reduceSub, Array.replicate_succ, Array.replicate_zero, List.push_toArray, List.append_toArray, List.nil_append, List.cons_append]
 obtain ⟨ka, kc, hkf⟩ := formR hK
 obtain ⟨va, vc, hvf⟩ := formR hV
 have HK := hid hK
 have HV := hid hV
 rw [hkf] at c1
 rw [hvf] at c2
 have HL : Hid ((ks.attach).length = ks.length) := hid (by rw [List.length_attach])
 clear hK hV
 gi_wp2
 gi_loopw [10] (fun i wr => ∃ k : Nat, k <= ks.length /\ i = .int .i64 k /\ Hid (J ((ks.attach).take k) wr) /\ Hid (KIn S W wr)) (fun i _ => ks.length - (intOf i).toNat)
 case atStart => exact ⟨0, Nat.zero_le _, rfl, h0, KIn.refl _ _⟩
 case round =>
  obtain ⟨k, hk, rfl, HJ, HKI⟩ := hrel
  by_cases hlt : k < ks.length
  .have hlti : (k : Int) < ks.length := by omega
   obtain ⟨kg, kc2, ke, _, _, _⟩ := own_shape HK.out (by omega)
   obtain ⟨vg, vc2, ve, _, _, _⟩ := own_shape HV.out (by omega)
   rw [hkf] at ke
   rw [hvf] at ve
   injection ke with ke _ ke3
   injection ve with ve _ ve3
   subst ke ve ke3 ve3
   have hil : k < (ks.attach).length := by rw [HL.out]; exact hlt
   have HTK : Hid ((ks.attach).take (k + 1) = (ks.attach).take k ++ [(ks.attach)[k]]) := hid (by rw [List.take_add_one, List.getElem?_eq_getElem hil]; rfl)
   have k0 := (World.cell?_of_block (a := ⟨Bs, 0, none⟩) (HKI.out Bs hBs)).trans c0
   have k2 := (World.cell?_of_block (a := ⟨ob, oo + 1, none⟩) (HKI.out ob hob)).trans c2
   have k3 : wr.cell? ⟨kg, k, none⟩ = some (.int .i64 ks[k]) := (World.cell?_of_block (a := ⟨kg, k, none⟩) (HKI.out kg (hkS kg (by rw [hkf]; rfl)))).trans (own_cells HK.out hkf (by rw [List.getElem?_map, List.getElem?_eq_getElem hlt]; rfl))
   have hvc := (World.cell?_of_block (a := ⟨vg, k * 2, none⟩) (HKI.out vg (hvS vg (by rw [hvf]; rfl)))).trans (own_cells HV.out hvf (flatN (K := 2) (f := fun y => [(f y).1, (f y).2]) (fun _ => rfl) ks k hlt 0 (by omega)))
   have hvd := (World.cell?_of_block (a := ⟨vg, k * 2 + 1, none⟩) (HKI.out vg (hvS vg (by rw [hvf]; rfl)))).trans (own_cells HV.out hvf (flatN (K := 2) (f := fun y => [(f y).1, (f y).2]) (fun _ => rfl) ks k hlt 1 (by omega)))
   have k4 : wr.cell? ⟨vg, k * 2, none⟩ = some (f ks[k]).1 := hvc
   have k5 : wr.cell? ⟨vg, k * 2 + 1, none⟩ = some (f ks[k]).2 := hvd
   clear hvc hvd
   obtain ⟨fn, tmps, assign, body, hy, hR⟩ := hY _ ((ks.attach)[k]) wr HJ.out (by rw [List.length_take]; omega)
   rw [<- HTK.out] at hR
   have hit : (ks.attach[k]).1 = ks[k] := by simp
   unfold encV at hy
   rw [hit] at hy
   obtain ⟨⟨a1, n1, q1, e1⟩, a2, n2, q2, e2⟩ := hff ks[k]
   rw [e1] at hy k4
   rw [e2] at hy k5
   clear e1 e2 hit
   generalize ks[k] = kk at *
   clear HTK hil HJ
   gi_wp2
   refine hR.mono ?_
   rintro e W3 (⟨rfl, hJ3, hk3⟩ | ⟨rfl, hJx3⟩)
   .have HJ3 := hid hJ3
    have HK3 := hid (HKI.out.trans hk3)
    clear hy hR hJ3 hk3 HKI
    gi_wp2
    go_roundw
    case rel => exact ⟨k + 1, by omega, by go_num, HJ3, HK3⟩
    case measure => simp [intOf]; omega
   .clear hy hR
    gi_wp2
    refine bodyPost_ret (results_none rfl _ _ _) rfl ?_
    exact ⟨⟨_, rfl⟩, .inr ⟨_, trivial, hJx3⟩⟩
  .obtain rfl : k = ks.length := by omega
   have hJ := HJ.out
   rw [List.take_of_length_le (by rw [HL.out]; exact Nat.le_refl _)] at hJ
   have HJ2 := hid hJ
   have hlti : ¬ (ks.length : Int) < ks.length := by omega
   clear HJ hJ
   gi_wp2
   go_end0
   exact ⟨⟨_, rfl⟩, .inl HJ2.out⟩
theorem all_in_iv (F : Fence) (m : Nat) (h5 : F.fn 67) (hro : F.round = none) (ob oo : Nat) (w : World) :
 CallsIn F m Tryz.prog 67 #[.pointer (some ⟨ob, oo, none⟩)] w fun e w' => e = .returned (.func (.func 84) #[] #[.pointer (some ⟨w.heap.size, 0, none⟩)]) /\ w' = w.alloc (.cells #[.pointer (some ⟨ob, oo, none⟩)] 178) := by
 refine callsIn_of_wp Tryz.func67 rfl h5 ?_ hro
 simp only [Tryz.ntmps67, List.size_toArray, List.length_cons, List.length_nil, Nat.reduceAdd, Nat.reduceSub, Array.replicate_succ, Array.replicate_zero, List.push_toArray, List.append_toArray, List.nil_append, List.cons_append]
 gi_wp2
 go_ret
 exact ⟨rfl, rfl⟩
end Go.Proofs.YtblkgicbimflhaaGreat
