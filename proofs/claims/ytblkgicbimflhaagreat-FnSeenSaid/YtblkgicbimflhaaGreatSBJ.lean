import Derived.Test.YtblkgicbimflhaaGreatSBI
namespace Go.Proofs.YtblkgicbimflhaaGreat
open Go.ChangeShapes Go.WideShapes Go.ChangeAt Go.RowKit
set_option linter.unusedVariables false
set_option linter.unusedSimpArgs false
set_option maxRecDepth 100000
set_option maxHeartbeats 16000000
open Go.ChangeMaps (setBlock)
theorem PutR.undrew {B b o e K : Nat} {w : World} {cs : List Value} {kv vv : Value} {ks' : List Int} {ys : List Value} {w' : World} {kv' vv' : Value} (h : PutR B b o e K w.drew cs kv vv ks' ys w' kv' vv') : PutR B b o e K w cs kv vv ks' ys w' kv' vv' := ⟨h.bk, h.kr, h.vr, ⟨h.fr.os, h.fr.tape, h.fr.output, h.fr.size, h.fr.block⟩, h.kn, h.vn, h.ds⟩
def SettP (B sb : Nat) (w : World) (L : LIx -> Value) (c : Led) (ck : Int) (op : Nat -> Option Addr) (t : TG) (x : Txn) (w' : World) : Prop := ∃ L' c', LedM B w' L' c' /\ Blk w' sb (sesC (ck + 1) L' op) /\ (∀ k y, c'.T k y = c.T k y ++ newV t.M (ck + 1) k y) /\ c'.hs = (if x.md = 2 then c.hs ++ [infoF x.bg (ck + 1) x.own x.rs] else c.hs) /\ (∀ g, ldF L' g -> ldF L g \/ w.heap.size <= g) /\ Fr (fun g => g = sb \/ ldF L g) w w'
theorem settle_1 (B sb : Nat) (w : World) (L : LIx -> Value) (c : Led) (ck : Int) (op : Nat -> Option Addr) (t : TG) (x : Txn) (hL : LedM B w L c) (hLb : LedB c) (hS : Blk w sb (sesC ck L op)) (hsb : sb < w.heap.size) (hT : TrM B w t x) (hck : 0 <= ck) (hck2 : ck <= 1000) (hB : B <= w.heap.size) (hns : ¬ ldF L sb) (hdt : ∀ b, trF t b -> ¬ ldF L b /\ b ≠ sb) (hst : ∀ k y z, z ∈ c.T k y -> z.1 <= ck) (hKb : ∀ k, (c.K k).length + t.M.length < 1048576) (hTb : ∀ k y, (c.T k y).length + 1 < 1048576) (hmd : ¬ x.md = 2) :
 Calls Tryz.prog 71 #[.pointer (some ⟨sb, 0, none⟩), .pointer (some ⟨t.g, 0, none⟩)] w fun e w' => (∃ r, e = .returned r) /\ SettP B sb w L c ck op t x w' := by
 obtain ⟨wA, hwA⟩ : ∃ z, z = w.setCell ⟨sb, 0, none⟩ (.int .i64 (ck + 1)) := ⟨_, rfl⟩
 have fA : Fr (fun g => g = sb) w wA := by rw [hwA]; exact Fr.setCell w sb 0 _
 have TA : TrM B wA t x := hT.fr fA (fun b hb => (hdt b hb).2)
 have LA : LedM B wA L c := hL.fr fA (fun g hg e => hns (by rw [<- e]; exact hg))
 have SA : Blk wA sb (sesC (ck + 1) L op) := by rw [hwA]; exact ses_clock hS
 have hzA : wA.heap.size = w.heap.size := by rw [hwA]; simp
 have c0 := (ses_cell hS (j := 0) (by omega)).1
 have f0 := (ses_cell hS (j := 0) (by omega)).2
 rw [sesAt_0] at c0
 have d1 := TA.c1
 have d34 := TA.c34
 have hw1 : IntKind.i64.wrap (ck + 1) = ck + 1 := by simp only [IntKind.wrap_i64, wrap64]; omega
 have hmb2 : (x.md == 2) = false := beq_eq_false_iff_ne.2 hmd
 obtain ⟨o, hrun, hit⟩ := run_rangeM wA t.mb t.M TA.mp
 rw [hzA] at hrun hit
 have HSM : Hid (SetM B sb w L { c with hs := c.hs } (ck + 1) op t.mb t.M w.heap.size (wA.alloc o) L c []) := hid (⟨LA.below (below_alloc _ _), SA.below (below_alloc _ _) (by omega), hit, fun k y => by simp, rfl, fun k => by simp, fun g hg => .inl hg, (fA.mono (fun g e => .inl e)).trans (Fr.of_below _ (below_alloc _ _)), List.nodup_nil, fun k h => absurd h (by simp), hns, hsb, by omega, fun k y z hz => by have := hst k y z hz; omega⟩)
 clear hit SA LA TA fA hS hL hzA
 rw [hwA] at hrun d1 d34
 go_enter Tryz.func71, Tryz.ntmps71
 go_wp2
 rw [<- hwA]
 rw [<- hwA] at hrun d1 d34
 clear hrun d1 d34 c0 f0
 go_loopw [] (fun wr => ∃ L1 c1 D, Hid (SetM B sb w L { c with hs := c.hs } (ck + 1) op t.mb t.M w.heap.size wr L1 c1 D)) (fun wr => wr.rangeLeft t.mb w.heap.size)
 case atStart => exact ⟨_, _, [], HSM⟩
 case round =>
  clear HSM
  obtain ⟨L1, c1, D, HSM⟩ := hrel
  have hsm := HSM.out
  have hrl := hsm.rl
  rcases hsm.it.next 0 with ⟨hall, hrun⟩ | ⟨m, w1, hm, hnD, hrun, hit1, hf1, hz1, hlt, hen⟩
  .have HF : Hid (SettP B sb w L c ck op t x wr) := hid (by
    have hc : ∀ k y, c1.T k y = c.T k y ++ newV t.M (ck + 1) k y := fun k y => by
     have h1 : c1.T k y = c.T k y ++ (if ((k : Int), y) ∈ D then newV t.M (ck + 1) k y else []) := hsm.hT k y
     rw [h1]
     by_cases e : ((k : Int), y) ∈ D
     .rw [if_pos e]
     .rw [if_neg e]
      have : mget t.M ((k : Int), y) = none := by
       cases hq : mget t.M ((k : Int), y) with
       | none => rfl
       | some z => exact absurd (hall _ (mget_some hq)) e
      unfold newV
      rw [this]
    exact ⟨L1, c1, hsm.led, hsm.ses, hc, by rw [hsm.hH]; simp [hmd], hsm.nw, hsm.fr⟩)
   clear hall hsm HSM
   go_wp2
   go_end0
   exact ⟨⟨_, rfl⟩, HF.out⟩
  .obtain ⟨⟨a, y⟩, v, b⟩ := m
   have ht := hT.mi _ hm
   simp only at ht
   obtain ⟨n, rfl⟩ : ∃ n : Nat, a = (n : Int) := ⟨a.toNat, by omega⟩
   have hn : n < 32 := by omega
   have hni : (n : Int) < 32 := by omega
   have hsr := hsm.fr.size
   have hs1 := hf1.size
   have nr : ∀ g, ldF L1 g -> g ≠ w.heap.size /\ g ≠ t.mb := fun g hg => by
    obtain ⟨i, hi⟩ := hg
    obtain ⟨q1, q2⟩ := it_own hsm.it (hsm.led.rm.rows i)
    exact ⟨fun e => q1 (by rw [<- e]; exact hi), fun e => q2 (by rw [<- e]; exact hi)⟩
   have sbr := it_blk hsm.it hsm.ses (by rw [sesC_len]; omega)
   have led1 : LedM B w1 L1 c1 := hsm.led.fr hf1 (fun g hg => (nr g hg).1)
   have ses1 : Blk w1 sb (sesC (ck + 1) L1 op) := hsm.ses.fr hf1 (by omega) sbr.1
   have hkl := hsm.kl n
   have hDl : D.length < t.M.length := by
    have := sub_len (D := ((n : Int), y) :: D) (E := t.M.map Prod.fst) (List.nodup_cons.2 ⟨hnD, hsm.nd⟩) (fun d hd => by
     rcases List.mem_cons.1 hd with z | z
     .rw [z]; exact List.mem_map_of_mem hm
     .obtain ⟨u, hu⟩ := hsm.hd d z; exact List.mem_map_of_mem hu)
    rw [List.length_cons, List.length_map] at this
    omega
   have hTn : c1.T n y = c.T n y := by have h1 : c1.T n y = c.T n y ++ (if ((n : Int), y) ∈ D then newV t.M (ck + 1) n y else []) := hsm.hT n y; rw [h1, if_neg hnD, List.append_nil]
   have hLB : LedB c1 := ⟨fun k => by have h1 : (c1.K k).length <= (c.K k).length + D.length := hsm.kl k; have h2 := hKb k; have h3 : D.length < t.M.length := hDl; omega, fun k z => by
    have h1 : c1.T k z = c.T k z ++ (if ((k : Int), z) ∈ D then newV t.M (ck + 1) k z else []) := hsm.hT k z
    rw [h1, List.length_append]
    have h2 := hTb k z
    have h3 : (if ((k : Int), z) ∈ D then newV t.M (ck + 1) k z else []).length <= 1 := by
     split
     .unfold newV; split <;> simp
     .simp
    omega, by rw [hsm.hH]; exact hLb.hl, by rw [hsm.hH]; exact hLb.hb⟩
   obtain ⟨wb, hwb⟩ : ∃ z, z = (w1.alloc (.cells #[.int .i64 (n : Int), .int .i64 y] 113)).alloc (.cells #[.int .i64 v, .bool b] 121) := ⟨_, rfl⟩
   have bb1 : Below w1.heap.size w1 wb := by rw [hwb]; exact (below_alloc w1 _).trans ((below_alloc _ _).mono (by simp))
   have hzb : wb.heap.size = w1.heap.size + 1 + 1 := by rw [hwb]; simp
   have ksp : Blk wb w1.heap.size [.int .i64 (n : Int), .int .i64 y] := by rw [hwb]; exact (blk_new w1 [.int .i64 (n : Int), .int .i64 y] 113).below (below_alloc _ _) (by simp)
   have kvn : Blk wb (w1.heap.size + 1) [.int .i64 v, .bool b] := by
    have := blk_new (w1.alloc (.cells #[.int .i64 (n : Int), .int .i64 y] 113)) [.int .i64 v, .bool b] 121
    rw [show (w1.alloc (.cells #[.int .i64 (n : Int), .int .i64 y] 113)).heap.size = w1.heap.size + 1 by simp] at this
    rw [hwb]; exact this
   have sl1 : sb < w1.heap.size := by omega
   have hva := (led1.below bb1).vat hLB (ses1.below bb1 sl1) (by omega) n hn y
   obtain ⟨⟨ka, kn, kc, hek⟩, va, vn, vc, hev⟩ := led1.ff n y
   have HM := hid hm
   have HND := hid hnD
   have HI1 := hid hit1
   have HF1 := hid hf1
   have HLT := hid hlt
   have HLE := hid led1
   have HSE := hid ses1
   have HLB := hid hLB
   clear hit1 hf1 hlt hm hnD ht led1 ses1 hLB hsm nr
   simp only [sptV, vsnV] at hrun hen
   have hzq := hid hz1
   clear hz1
   rw [hwb] at hva
   go_wp2_with (go_at_call 64; fail)
   refine hva.mono ?_
   rw [<- hwb]
   rintro e w3 ⟨rfl, hb3⟩
   have b13 : Below w1.heap.size w1 w3 := bb1.trans (hb3.mono bb1.size)
   have hs3 := hb3.size
   obtain ⟨w4, hw4⟩ : ∃ z, z = w3.alloc (.cells #[L1 (.ek n y), L1 (.ev n y)] 155) := ⟨_, rfl⟩
   have b14 : Below w1.heap.size w1 w4 := by rw [hw4]; exact b13.trans ((below_alloc _ _).mono (by omega))
   have hz4 : w4.heap.size = w3.heap.size + 1 := by rw [hw4]; simp
   have led4 := HLE.out.below b14
   have ses4 := HSE.out.below b14 sl1
   have kvb : Blk w4 w3.heap.size [L1 (.ek n y), L1 (.ev n y)] := by rw [hw4]; exact blk_new w3 [L1 (.ek n y), L1 (.ev n y)] 155
   have ksp4 : Blk w4 w1.heap.size [.int .i64 (n : Int), .int .i64 y] := by rw [hw4]; exact (ksp.below hb3 (by omega)).below (below_alloc _ _) (by omega)
   have kvn4 : Blk w4 (w1.heap.size + 1) [.int .i64 v, .bool b] := by rw [hw4]; exact (kvn.below hb3 (by omega)).below (below_alloc _ _) (by omega)
   have q0 := (ses_cell ses4 (j := 0) (by omega)).1
   rw [sesAt_0] at q0
   obtain ⟨p0, p1⟩ := kc1 kvn4
   have nvb : ∀ g, ldF L1 g -> g ≠ w3.heap.size := fun g hg e => by have h1 := (HLE.out.rm.lt hg).2; omega
   have ndk : ∀ g, (L1 (.ek n y)).ownBlock = some g -> (L1 (.ev n y)).ownBlock ≠ some g := fun g h1 h2 => by have := led4.rm.inj _ _ g h1 h2; cases this
   have ndt : ∀ g, (L1 (.tk n)).ownBlock = some g -> (L1 (.tv n)).ownBlock ≠ some g := fun g h1 h2 => by have := led4.rm.inj _ _ g h1 h2; cases this
   have hml : ((c1.T n y).map (·.1)).length = (c1.T n y).length := List.length_map _
   have hall : ∀ k ∈ (c1.T n y).map (·.1), k < ck + 1 := fun k hk => by
    obtain ⟨z, hz, rfl⟩ := List.mem_map.1 hk
    rw [hTn] at hz
    have := hst n y z hz
    omega
   have HP1 := hid (put_ver_new B w3.heap.size 0 [L1 (.ek n y), L1 (.ev n y)] (L1 (.ek n y)) (L1 (.ev n y)) ((c1.T n y).map (·.1)) ((c1.T n y).map verV) (ck + 1) v b w4.drew kvb (by show w3.heap.size < w4.heap.size; omega) rfl rfl (by rw [hml]; exact led4.rm.rows (.ek n y)) (by rw [hml]; exact led4.rm.rows (.ev n y)) (by simp) (fun l hl => by
    obtain ⟨z, hz, rfl⟩ := List.mem_map.1 hl
    exact ⟨rfl, fun u hu => by simp [verV] at hu; rcases hu with rfl | rfl <;> rfl⟩) (led4.tst n y) (by rw [hml]; exact HLB.out.tb n y) (fun e => nvb _ ⟨_, e⟩ rfl) (fun e => nvb _ ⟨_, e⟩ rfl) ndk (by show B <= w4.heap.size; omega) hall)
   have HL4 := hid led4
   have HS4 := hid ses4
   have HK4 := hid ksp4
   have HB4 := hid b14
   clear hva ksp kvn kvb ksp4 kvn4 led4 ses4 b14 hb3 b13 hall hml
   rw [hek, hev] at hw4 ⊢
   rw [hw4] at q0 p0 p1
   go_wp2
   rw [<- hw4] at q0 p0 p1 ⊢
   have hz4a : w3.heap.size < w4.heap.size := by omega
   have hz3a : w1.heap.size + 1 < w3.heap.size := by omega
   clear hw4 hwb hz4 hzb
   refine wp_region_till_drew (S := (fun W => W.cell? ⟨sb, 0, none⟩ = some (.int .i64 (ck + 1)) /\ W.cell? ⟨w1.heap.size + 1, 0, none⟩ = some (.int .i64 v) /\ W.cell? ⟨w1.heap.size + 1, 1, none⟩ = some (.bool b))) (late := []) (by kernel_rfl) ⟨q0, p0, p1⟩ (fun hHeld => ?_)
   refine tT 0 rfl hHeld ?_
   try simp only [Act.put, q1, q2, q3]
   refine tT 1 rfl hHeld ?_
   try simp only [Act.put, q1, q2, q3]
   refine tT 2 rfl hHeld ?_
   try simp only [Act.put, q1, q2, q3]
   refine tT 3 rfl hHeld ?_
   try simp only [Act.put, q1, q2, q3]
   refine till_ld (i := 4) (v := ?_) rfl (Or.inl ⟨by rfl, ?_⟩) hHeld ?_
   rotate_left
   .intro w hSw
    try dsimp only at hSw
    go_simp
    try with_reducible rfl
   try simp only [Act.put, q1, q2, q3]
   refine till_ld (i := 5) (v := ?_) rfl (Or.inl ⟨by rfl, ?_⟩) hHeld ?_
   rotate_left
   .intro w hSw
    try dsimp only at hSw
    go_simp
    try with_reducible rfl
   try simp only [Act.put, q1, q2, q3]
   have hbl : ∀ g, ldF L1 g -> g < w1.heap.size := fun g hg => (HLE.out.rm.lt hg).2
   have hnsb := HSM.out.nsb
   refine rE 6 rfl fun K hK => ?_
   go_simp
   rw [hek, hev] at HP1
   refine HP1.out.mono ?_
   rintro e w5 ⟨kv', vv', r1, rfl, R1d⟩
   rw [<- hek, <- hev] at R1d
   have R1 := R1d.undrew
   clear R1d
   have n5 : ∀ g, g < w4.heap.size -> ¬ ldF L1 g -> g ≠ w3.heap.size -> w5.heap[g]? = w4.heap[g]? := fun g h1 h2 h3 => R1.fr.block g h1 (fun z => by
    rcases z with z | z | z
    .exact h3 z
    .exact h2 ⟨_, z⟩
    .exact h2 ⟨_, z⟩)
   have fsb := n5 sb (by omega) hnsb (by omega)
   have fvn := n5 (w1.heap.size + 1) (by omega) (fun z => by have := hbl _ z; omega) (by omega)
   have fsp := n5 w1.heap.size (by omega) (fun z => by have := hbl _ z; omega) (by omega)
   have q05 := (World.cell?_of_block (a := ⟨sb, 0, none⟩) fsb).trans q0
   have p05 := (World.cell?_of_block (a := ⟨w1.heap.size + 1, 0, none⟩) fvn).trans p0
   have p15 := (World.cell?_of_block (a := ⟨w1.heap.size + 1, 1, none⟩) fvn).trans p1
   have s0 : w5.cell? ⟨w1.heap.size, 0, none⟩ = some (.int .i64 (n : Int)) := (World.cell?_of_block (a := ⟨w1.heap.size, 0, none⟩) fsp).trans (HK4.out 0 (by simp)).1
   have s1 : w5.cell? ⟨w1.heap.size, 1, none⟩ = some (.int .i64 y) := (World.cell?_of_block (a := ⟨w1.heap.size, 1, none⟩) fsp).trans (HK4.out 1 (by simp)).1
   have kv0 : w5.cell? ⟨w3.heap.size, 0, none⟩ = some kv' := (R1.bk 0 (by simp)).1
   have kv1 : w5.cell? ⟨w3.heap.size, 1, none⟩ = some vv' := (R1.bk 1 (by simp)).1
   have hs5 := R1.fr.size
   have ses5 : Blk w5 sb (sesC (ck + 1) L1 op) := fun j hj => ⟨(World.cell?_of_block (a := ⟨sb, j, none⟩) fsb).trans (HS4.out j hj).1, (World.frozen?_of_block (a := ⟨sb, j, none⟩) fsb).trans (HS4.out j hj).2⟩
   have nt : ∀ i, i ≠ .ek n y -> i ≠ .ev n y -> w5.ownsRow B (lTy i) (lSz i) (L1 i) (lLen c1 i) (lCel L1 c1 i) := fun i h1 h2 => own_fr (HL4.out.rm.rows i) R1.fr (fun g hg z => by
    rcases z with z | z | z
    .exact nvb g ⟨_, hg⟩ z
    .exact h1 (HL4.out.rm.inj _ _ g hg z)
    .exact h2 (HL4.out.rm.inj _ _ g hg z))
   obtain ⟨fa, fm, fc, hkf⟩ : ∃ a m q, kv' = .slice a m q := by obtain ⟨a, q, e⟩ := formR R1.kr; exact ⟨_, _, _, e⟩
   obtain ⟨ga, gm, gc, hvf⟩ : ∃ a m q, vv' = .slice a m q := by obtain ⟨a, q, e⟩ := formR R1.vr; exact ⟨_, _, _, e⟩
   rw [hkf] at kv0 R1
   rw [hvf] at kv1 R1
   have HP2 := hid (put_vss B sb (1 + n * 2) (sesC (ck + 1) L1 op) (L1 (.tk n)) (L1 (.tv n)) (c1.K n) ((c1.K n).map (fun z => [L1 (.ek n z), L1 (.ev n z)])) y fa ga fm fc gm gc w5.drew ses5 (by show sb < w5.heap.size; omega) (by rw [sesC_at _ _ _ (by omega), sesAt_tk _ _ _ hn]) (by rw [sesC_at _ _ _ (by omega), sesAt_tv _ _ _ hn]) (nt (.tk n) (by simp) (by simp)) (by have := nt (.tv n) (by simp) (by simp); simp only [lTy, lSz, lLen, lCel, List.flatMap_def] at this; exact this) (by simp) (fun l hl => by
    obtain ⟨z, hz, rfl⟩ := List.mem_map.1 hl
    refine ⟨rfl, fun u hu => ?_⟩
    obtain ⟨⟨a1, a2, a3, e1⟩, b1, b2, b3, e2⟩ := HL4.out.ff n z
    simp only [List.mem_cons, List.not_mem_nil, or_false] at hu
    rcases hu with rfl | rfl
    .rw [e1]; rfl
    .rw [e2]; rfl) (HL4.out.srt n) (HLB.out.kb n) (fun e => hnsb ⟨_, e⟩) (fun e => hnsb ⟨_, e⟩) ndt (by show B <= w5.heap.size; omega))
   have HR1 := hid R1
   clear R1 nt n5 fsb fvn fsp ses5 hkf hvf
   refine hK _ _ ⟨⟨q05, p05, p15⟩, ?_⟩
   clear hK K HP1
   try simp only [Act.put, q1, q2, q3]
   refine till_done (by kernel_rfl) ?_ _
   clear q05 p05 p15 q0 p0 p1
   go_wp2
   refine wp_region_till_drew (S := (fun W => W.cell? ⟨w1.heap.size, 0, none⟩ = some (.int .i64 (n : Int)) /\ W.cell? ⟨w1.heap.size, 1, none⟩ = some (.int .i64 y) /\ W.cell? ⟨w3.heap.size, 0, none⟩ = some (.slice fa fm fc) /\ W.cell? ⟨w3.heap.size, 1, none⟩ = some (.slice ga gm gc))) (late := []) (by kernel_rfl) ⟨s0, s1, kv0, kv1⟩ (fun hHeld => ?_)
   refine tT 0 rfl hHeld ?_
   try simp only [Act.put, q1, q2, q3]
   refine tT 1 rfl hHeld ?_
   try simp only [Act.put, q1, q2, q3]
   refine till_ld (i := 2) (v := ?_) rfl (Or.inl ⟨by rfl, ?_⟩) hHeld ?_
   rotate_left
   .intro w hSw
    try dsimp only at hSw
    go_simp
    try with_reducible rfl
   try simp only [Act.put, q1, q2, q3]
   refine tT 3 rfl hHeld ?_
   try simp only [Act.put, q1, q2, q3]
   refine tT 4 rfl hHeld ?_
   try simp only [Act.put, q1, q2, q3]
   refine tT 5 rfl hHeld ?_
   try simp only [Act.put, q1, q2, q3]
   refine tT 6 rfl hHeld ?_
   try simp only [Act.put, q1, q2, q3]
   refine till_ld (i := 7) (v := ?_) rfl (Or.inl ⟨by rfl, ?_⟩) hHeld ?_
   rotate_left
   .intro w hSw
    try dsimp only at hSw
    go_simp
    try with_reducible rfl
   try simp only [Act.put, q1, q2, q3]
   refine till_ld (i := 8) (v := ?_) rfl (Or.inl ⟨by rfl, ?_⟩) hHeld ?_
   rotate_left
   .intro w hSw
    try dsimp only at hSw
    go_simp
    try with_reducible rfl
   try simp only [Act.put, q1, q2, q3]
   refine rE 9 rfl fun K hK => ?_
   go_simp
   refine HP2.out.mono ?_
   rintro e w6 ⟨kv2, vv2, r2, rfl, R2d⟩
   have R2 := R2d.undrew
   have HST := hid (HSM.out.step hn HM.out HND.out HI1.out HF1.out HLT.out HB4.out (by omega) hz4a HR1.out R2)
   have n6 : ∀ g, g < w5.heap.size -> ¬ ldF L1 g -> g ≠ sb -> w6.heap[g]? = w5.heap[g]? := fun g h1 h2 h3 => R2.fr.block g h1 (fun z => by
    rcases z with z | z | z
    .exact h3 z
    .exact h2 ⟨_, z⟩
    .exact h2 ⟨_, z⟩)
   have gsp := n6 w1.heap.size (by omega) (fun z => by have := hbl _ z; omega) (by omega)
   have gvb := n6 w3.heap.size (by omega) (fun z => by have := hbl _ z; omega) (by omega)
   have s06 := (World.cell?_of_block (a := ⟨w1.heap.size, 0, none⟩) gsp).trans s0
   have s16 := (World.cell?_of_block (a := ⟨w1.heap.size, 1, none⟩) gsp).trans s1
   have k06 := (World.cell?_of_block (a := ⟨w3.heap.size, 0, none⟩) gvb).trans kv0
   have k16 := (World.cell?_of_block (a := ⟨w3.heap.size, 1, none⟩) gvb).trans kv1
   clear R2d R2 n6 gsp gvb HP2
   refine hK _ _ ⟨⟨s06, s16, k06, k16⟩, ?_⟩
   clear hK K
   try simp only [Act.put, q1, q2, q3]
   refine till_done (by kernel_rfl) ?_ _
   obtain ⟨L2, c2, hs2, hl2⟩ := HST.out
   have HS2 := hid hs2
   clear hs2 HST s06 s16 k06 k16
   go_wp2
   go_roundw
   case rel => exact ⟨_, _, _, HS2⟩
   case measure => exact hl2
end Go.Proofs.YtblkgicbimflhaaGreat
