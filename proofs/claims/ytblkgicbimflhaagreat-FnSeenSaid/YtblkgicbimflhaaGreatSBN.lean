import Derived.Test.YtblkgicbimflhaaGreatSBM
namespace Go.Proofs.YtblkgicbimflhaaGreat
open Go.ChangeShapes Go.WideShapes Go.ChangeAt Go.RowKit
set_option linter.unusedVariables false
set_option linter.unusedSimpArgs false
set_option maxRecDepth 100000
set_option maxHeartbeats 16000000
open Go.Shelf
open Go.ChangeMaps (setBlock)
attribute [local go_sem] Oper.semAt_some
def sv1 (T : Int -> List Ver) (bg : Int) (y : Int) : Option Int := if (verAt (T y) bg).2 then some (verAt (T y) bg).1 else none
def gP (T : Int -> List Ver) (bg : Int) (pre : List Int) (y : Int) : Option Int := if y ∈ pre then sv1 T bg y else none
def svO (v : Vsn) : Option Int := if v.2 then some v.1 else none
def gD (T : Int -> List Ver) (bg : Int) (M : List (Spt × Vsn)) (n : Nat) (D : List Spt) (y : Int) : Option Int := if ((n : Int), y) ∈ D then (match mget M ((n : Int), y) with
 | some v => svO v
 | none => none) else sv1 T bg y
theorem gD_nil (T : Int -> List Ver) (bg : Int) (M : List (Spt × Vsn)) (n : Nat) (y : Int) : gD T bg M n [] y = sv1 T bg y := by
 unfold gD
 exact if_neg (List.not_mem_nil)
theorem gD_other (T : Int -> List Ver) (bg : Int) (M : List (Spt × Vsn)) (n : Nat) (D : List Spt) (a y z : Int) (h : a ≠ (n : Int)) : gD T bg M n ((a, y) :: D) z = gD T bg M n D z := by
 have : ((n : Int), z) ∈ (a, y) :: D ↔ ((n : Int), z) ∈ D := ⟨fun q => by
  rcases List.mem_cons.1 q with e | e
  .injection e with e1 _; exact absurd e1.symm h
  .exact e, fun q => List.mem_cons_of_mem _ q⟩
 unfold gD
 by_cases e : ((n : Int), z) ∈ D
 .rw [if_pos e, if_pos (this.2 e)]
 .rw [if_neg e, if_neg (fun q => e (this.1 q))]
theorem gD_same (T : Int -> List Ver) (bg : Int) (M : List (Spt × Vsn)) (n : Nat) (D : List Spt) (y z : Int) (v : Vsn) (h : mget M ((n : Int), y) = some v) : gD T bg M n (((n : Int), y) :: D) z = if z = y then svO v else gD T bg M n D z := by
 unfold gD
 by_cases e : z = y
 .subst e
  rw [if_pos rfl, if_pos List.mem_cons_self, h]
 .rw [if_neg e]
  by_cases e2 : ((n : Int), z) ∈ D
  .rw [if_pos e2, if_pos (List.mem_cons_of_mem _ e2)]
  .rw [if_neg e2, if_neg (fun q => by
    rcases List.mem_cons.1 q with e1 | e1
    .injection e1 with _ e3; exact e e3
    .exact e2 e1)]
def STI (b0 lb : Nat) (w : World) (tg : Nat) (T : Int -> List Ver) (bg : Int) (pre : List Int) (W : World) : Prop := (∃ ks us kv vv, OLM 0 b0 lb W ks us kv vv /\ OrdL ks us (gP T bg pre) /\ ks.length <= pre.length) /\ (Blk W w.heap.size [.pointer (some ⟨tg, 0, none⟩)] /\ Blk W (w.heap.size + 1) [.slice none 0 0, .slice none 0 0] /\ b0 <= W.heap.size) /\ Below w.heap.size w W
def stAx (w : World) (sb g n : Nat) (f : Int -> Value × Value) (ks : List Int) (x : { y : Int // y ∈ ks }) (a' : Act) (W : World) : Prop := ∃ Bx, w.heap.size + 1 + 1 + 1 < Bx /\ Bx < W.heap.size /\ Blk W Bx [(f x.1).1, (f x.1).2] /\ a' = { tmps := #[.pointer (some ⟨sb, 0, none⟩), .pointer (some ⟨g, 0, none⟩), .int .i64 (n : Int), undef, .pointer (some ⟨w.heap.size, 0, none⟩), undef, .pointer (some ⟨w.heap.size + 1, 0, none⟩), .pointer (some ⟨w.heap.size + 1 + 1, 0, none⟩), .int .i64 x.1, .pointer (some ⟨Bx, 0, none⟩), undef, undef, undef, .pointer (some ⟨sb, 0, none⟩), .int .i64 (n : Int), .pointer (some ⟨sb, 0, none⟩), .pointer (some ⟨sb, 1, none⟩), .pointer (some ⟨sb, 1 + n * 2, none⟩), .func (.func 84) #[] #[.pointer (some ⟨w.heap.size + 1 + 1 + 1, 0, none⟩)], .int .i64 x.1, .agg #[(f x.1).1, (f x.1).2], undef, undef, undef, undef, undef, undef, undef, undef, undef, undef, undef, undef, undef, undef, undef, undef, undef, undef, undef, undef, undef, undef, undef, undef, undef, undef, undef, undef, undef, undef, undef, undef, undef, undef, undef, undef, undef, undef, undef], defers := [] }
structure ST2 (b0 lb : Nat) (w : World) (T : Int -> List Ver) (bg : Int) (M : List (Spt × Vsn)) (n mb r D K : Nat) (wr : World) (Dn : List Spt) (ks us : List Int) (kv vv : Value) : Prop where
 it : IT wr r mb M Dn
 ol : OLM 0 b0 lb wr ks us kv vv
 od : OrdL ks us (gD T bg M n Dn)
 kl : ks.length <= K + Dn.length
 nd : Dn.Nodup
 hd : ∀ k ∈ Dn, ∃ v, (k, v) ∈ M
 rb : Blk wr (w.heap.size + 1) [.slice none 0 0, .slice none 0 0]
 be : Below w.heap.size w wr
 df : wr.heap[D]? = some (.deferred (some []))
 b0l : b0 <= wr.heap.size
theorem df_blk {W : World} {D b : Nat} {ds : Option (List Deferred)} {cs : List Value} (h : W.heap[D]? = some (.deferred ds)) (hb : Blk W b cs) (hl : 0 < cs.length) : b ≠ D := fun e => by
 subst e
 have := blk_cells hb hl h
 cases this
theorem df_own {W : World} {D B e K n : Nat} {ds : Option (List Deferred)} {v : Value} {xs : List Value} (h : W.heap[D]? = some (.deferred ds)) (ho : W.ownsRow B e K v n xs) : v.ownBlock ≠ some D := fun e => by
 have := own_cellsO ho e h
 cases this
theorem ST2.step {b0 lb : Nat} {w : World} {T : Int -> List Ver} {bg : Int} {M : List (Spt × Vsn)} {n mb r D K : Nat} {wr w1 w3 w4 : World} {Dn : List Spt} {ks us ks' us' : List Int} {kv vv kv' vv' : Value} {k : Spt} {v : Vsn} {S : Nat -> Prop} (h : ST2 b0 lb w T bg M n mb r D K wr Dn ks us kv vv) (hlb : lb = w.heap.size + 1 + 1) (hb0 : b0 = w.heap.size + 1 + 1 + 1 + 1) (hm : (k, v) ∈ M) (hnD : ¬ k ∈ Dn) (hit : IT w1 r mb M (k :: Dn)) (hf1 : Fr (fun g => g = r) wr w1) (hlt : w1.rangeLeft mb r < wr.rangeLeft mb r) (hr : w.heap.size <= r) (hbp : Below w1.heap.size w1 w3) (hS : ∀ g, S g -> g = lb \/ kv.ownBlock = some g \/ vv.ownBlock = some g) (hf : Fr S w3 w4) (ho : OLM 0 b0 lb w4 ks' us' kv' vv') (hg : OrdL ks' us' (gD T bg M n (k :: Dn))) (hk : ks'.length <= ks.length + 1) :
 ST2 b0 lb w T bg M n mb r D K w4 (k :: Dn) ks' us' kv' vv' /\ w4.rangeLeft mb r < wr.rangeLeft mb r := by
 have q1 := it_blk h.it h.ol.bk (by simp)
 have q2 := it_own h.it h.ol.kr
 have q3 := it_own h.it h.ol.vr
 have q4 := it_blk h.it h.rb (by simp)
 have d1 := df_blk h.df h.ol.bk (by simp)
 have d2 := df_own h.df h.ol.kr
 have d3 := df_own h.df h.ol.vr
 have dr : D ≠ r := fun e => by
  obtain ⟨es, cl, seen, _, _, _, _, _, h6, _⟩ := h.it
  have := h.df
  rw [e, h6] at this
  cases this
 have hDl : D < wr.heap.size := (Array.getElem?_eq_some_iff.1 h.df).1
 have hs1 := hf1.size
 have hs3 := hbp.size
 have hs4 := hf.size
 have hbl := h.b0l
 have kk : ∀ g, kv.ownBlock = some g -> b0 <= g := fun g hg => (h.ol.kr.lt g hg).1
 have kv2 : ∀ g, vv.ownBlock = some g -> b0 <= g := fun g hg => (h.ol.vr.lt g hg).1
 have i3 := hit.fr (Fr.of_below (fun _ => False) hbp) (fun z => z) (fun z => z)
 have i4 := i3.1.fr hf (fun z => by
  rcases hS _ z with y | y | y
  .exact q1.2 y.symm
  .exact q2.2 y
  .exact q3.2 y) (fun z => by
  rcases hS _ z with y | y | y
  .exact q1.1 y.symm
  .exact q2.1 y
  .exact q3.1 y)
 refine ⟨⟨i4.1, ho, hg, by have := h.kl; rw [List.length_cons]; omega, List.nodup_cons.2 ⟨hnD, h.nd⟩, fun a ha => ?_, ?_, ?_, ?_, by omega⟩, by rw [i4.2, i3.2]; exact hlt⟩
 .rcases List.mem_cons.1 ha with z | z
  .rw [z]; exact ⟨v, hm⟩
  .exact h.hd a z
 .refine ((h.rb.fr hf1 (by omega) q4.1).below hbp (by omega)).fr hf (by omega) (fun z => ?_)
  rcases hS _ z with y | y | y
  .omega
  .have := kk _ y; omega
  .have := kv2 _ y; omega
 .have b1 : Below w.heap.size w w1 := h.be.trans (hf1.below h.be.size (fun g e => by rw [e]; exact hr))
  have b3 := b1.trans (hbp.mono b1.size)
  refine b3.trans (hf.below b3.size (fun g z => ?_))
  rcases hS _ z with y | y | y
  .omega
  .have := kk _ y; omega
  .have := kv2 _ y; omega
 .rw [hf.block D (by omega) (fun z => by
   rcases hS _ z with y | y | y
   .exact d1 y.symm
   .exact d2 y
   .exact d3 y), hbp.block D (by omega), hf1.block D hDl dr]
  exact h.df
theorem seenTable_any (B sb n : Nat) (w : World) (L : LIx -> Value) (c : Led) (ck : Int) (op : Nat -> Option Addr) (t : TG) (x : Txn) (hL : LedM B w L c) (hLb : LedB c) (hS : Blk w sb (sesC ck L op)) (hsb : sb < w.heap.size) (hT : TrM B w t x) (hn : n < 32) (hKb : (c.K n).length + t.M.length < 1048576) :
 Calls Tryz.prog 46 #[.pointer (some ⟨sb, 0, none⟩), .pointer (some ⟨t.g, 0, none⟩), .int .i64 (n : Int)] w fun e w' => ∃ kv vv ks us, e = .returned (.agg #[kv, vv]) /\ w'.ownsRow w.heap.size 3 1 kv ks.length (ks.map (Value.int .i64)) /\ w'.ownsRow w.heap.size 3 1 vv ks.length (us.map (Value.int .i64)) /\ OrdL ks us (fun y => svO ((mget t.M ((n : Int), y)).getD (verAt (c.T n y) x.bg))) /\ ks.length < 1048576 /\ Below w.heap.size w w' := by
 obtain ⟨W1, hW1⟩ : ∃ z, z = ((w.alloc (.cells #[.pointer (some ⟨t.g, 0, none⟩)] 77)).alloc (.cells #[.slice none 0 0, .slice none 0 0] 125)).alloc (.cells #[.slice none 0 0, .slice none 0 0] 125) := ⟨_, rfl⟩
 have K1a : Blk W1 w.heap.size [.pointer (some ⟨t.g, 0, none⟩)] := by rw [hW1]; exact blkA w [.pointer (some ⟨t.g, 0, none⟩)] [.slice none 0 0, .slice none 0 0] [.slice none 0 0, .slice none 0 0] _ _ _
 have K1b : Blk W1 (w.heap.size + 1) [.slice none 0 0, .slice none 0 0] := by rw [hW1]; exact blkB w [.pointer (some ⟨t.g, 0, none⟩)] [.slice none 0 0, .slice none 0 0] [.slice none 0 0, .slice none 0 0] _ _ _
 have K1c : Blk W1 (w.heap.size + 1 + 1) [.slice none 0 0, .slice none 0 0] := by rw [hW1]; exact blkC w [.pointer (some ⟨t.g, 0, none⟩)] [.slice none 0 0, .slice none 0 0] [.slice none 0 0, .slice none 0 0] _ _ _
 have hz1 : W1.heap.size = w.heap.size + 1 + 1 + 1 := by rw [hW1]; simp
 have b01 : Below w.heap.size w W1 := by rw [hW1]; exact (((Below.refl _ w).alloc (Nat.le_refl _) _).alloc (by simp) _).alloc (by simp; omega) _
 obtain ⟨W0, hW0⟩ : ∃ z, z = W1.alloc (.cells #[.pointer (some ⟨sb, 1 + n * 2, none⟩)] 178) := ⟨_, rfl⟩
 have ba : Below W1.heap.size W1 W0 := by rw [hW0]; exact below_alloc _ _
 have hz0 : W0.heap.size = w.heap.size + 1 + 1 + 1 + 1 := by rw [hW0]; simp [hz1]
 have hB0 : Below w.heap.size w W0 := b01.trans (ba.mono (by omega))
 have KA := K1a.below ba (by omega)
 have KB := K1b.below ba (by omega)
 have KC := K1c.below ba (by omega)
 have KD : Blk W0 (w.heap.size + 1 + 1 + 1) [.pointer (some ⟨sb, 1 + n * 2, none⟩)] := by
  have := blk_new W1 [.pointer (some ⟨sb, 1 + n * 2, none⟩)] 178
  rw [hz1] at this
  rw [hW0]; exact this
 have c0 := (ses_cell (hS.below hB0 hsb) (j := 1 + n * 2) (by omega)).1
 have c1 := (ses_cell (hS.below hB0 hsb) (j := 1 + n * 2 + 1) (by omega)).1
 rw [sesAt_tk _ _ _ hn] at c0
 rw [sesAt_tv _ _ _ hn] at c1
 have HSQ := hid (iv_stops Fence.wide 2 trivial rfl (by omega) (w.heap.size + 1 + 1 + 1) sb (1 + n * 2) B (fun b => b < w.heap.size \/ b = w.heap.size + 1 + 1 + 1) (c.K n) (fun y => (L (.ek n y), L (.ev n y))) (fun y => hL.ff n y) (L (.tk n)) (L (.tv n)) (.inr rfl) (.inl hsb) (fun g hg => .inl (hL.rm.lt ⟨_, hg⟩).2) (fun g hg => .inl (hL.rm.lt ⟨_, hg⟩).2) (Nat.le_of_lt (hLb.kb n)) W0 (fun b hb => by rcases hb with z | z <;> omega) (KD 0 (by simp)).1 c0 c1 ((hL.below hB0).rm.rows (.tk n)) ((hL.below hB0).rm.rows (.tv n)))
 have HKA := hid KA
 have HKB := hid KB
 have HKC := hid KC
 have HT := hid hT
 have HL := hid hL
 have HLB := hid hLb
 have hni : (n : Int) < 32 := by omega
 clear KA KB KC KD K1a K1b K1c c0 c1 hT hL hLb hS ba b01
 refine (callsIn_wide (n := 3)).1 ?_
 refine callsIn_of_wp_marks Tryz.func46 rfl trivial ?_ rfl
 simp only [Tryz.ntmps46, List.size_toArray, List.length_cons, List.length_nil, Nat.reduceAdd, Nat.reduceSub, Array.replicate_succ, Array.replicate_zero, List.push_toArray, List.append_toArray, List.nil_append, List.cons_append]
 have HW1 := hid hW1
 have HW0 := hid hW0
 have HZ1 := hid hz1
 have HZ0 := hid hz0
 clear hW1 hW0 hz1 hz0
 gi_wp2_with (refine ⟨trivial, ?_⟩; gi_at_call 67; refine (all_in_iv Fence.wide _ trivial rfl _ _ _).mono ?_; rintro e w' ⟨rfl, rfl⟩)
 rw [<- HW1.out, <- HW0.out]
 clear HW1 HW0
 refine wpIn_rangeFunc_ownH rfl (by omega) (gf := 84) (lb := #[.pointer (some ⟨w.heap.size + 1 + 1 + 1, 0, none⟩)]) rfl trivial (enters_of Tryz.func84 (by kernel_rfl) rfl)
  HSQ.out KIn.trans (fun W l o o' hl _ _ _ => KIn.put (fun z => by have := HZ0.out; rcases z with z | z <;> omega)) (Below.refl _ _) (fun _ => rfl)
  (fun pre W => STI W0.heap.size (w.heap.size + 1 + 1) w t.g (c.T n) x.bg (pre.map Subtype.val) W)
  (fun _ _ _ => False)
  (fun s A B row hs hg hr => by
   obtain ⟨⟨ks, us, kv, vv, k1, k2, k3⟩, ⟨k4, k5, k6⟩, k7⟩ := hs
   exact ⟨⟨ks, us, kv, vv, k1.owned hg (fun r e => (hr r e).2), k2, k3⟩, ⟨k4.owned hg (fun r e => (hr r e).2), k5.owned hg (fun r e => (hr r e).2), Nat.le_trans k6 hg.size⟩, ownFrom_below (β := Unit) (Nat.le_refl _) (by have := HZ0.out; omega) () A B row k7 hg hr⟩)
  (fun _ _ _ _ _ hs _ _ => hs)
  ⟨⟨[], [], _, _, ⟨HKC.out, World.ownsRow_nil _ _ _ _, World.ownsRow_nil _ _ _ _, fun g hg => (nil_own g hg).elim⟩, OrdL.nil.congr (fun y => by simp [gP]), Nat.zero_le _⟩, ⟨HKA.out, HKB.out, Nat.le_refl _⟩, hB0⟩
  (stAx w sb t.g n (fun y => (L (.ek n y), L (.ev n y))) (c.K n))
  (fun y a' => fun s A B row hs hg hr => by
   obtain ⟨Bx, k1, k2, k3, k4⟩ := hs
   exact ⟨Bx, k1, Nat.lt_of_lt_of_le k2 hg.size, k3.owned hg (fun r e => (hr r e).2), k4⟩) ?assign ?body ?done ?stop
 case assign =>
  rintro l pre y W K ⟨⟨ks, us, kv, vv, k1, k2, k3⟩, ⟨k4, k5, k6⟩, k7⟩ hK
  have hz0 := HZ0.out
  obtain ⟨⟨a1, n1, q1, e1⟩, a2, n2, q2, e2⟩ := HL.out.ff n y.1
  have ba := below_alloc W (.cells #[L (.ek n y.1), L (.ev n y.1)] 155)
  have fa : Fr (fun _ => False) W (W.alloc (.cells #[L (.ek n y.1), L (.ev n y.1)] 155)) := Fr.of_below _ ba
  have kn := blk_new W [L (.ek n y.1), L (.ev n y.1)] 155
  have HH := hid (hK ({ tmps := #[.pointer (some ⟨sb, 0, none⟩), .pointer (some ⟨t.g, 0, none⟩), .int .i64 (n : Int), undef, .pointer (some ⟨w.heap.size, 0, none⟩), undef, .pointer (some ⟨w.heap.size + 1, 0, none⟩), .pointer (some ⟨w.heap.size + 1 + 1, 0, none⟩), .int .i64 y.1, .pointer (some ⟨W.heap.size, 0, none⟩), undef, undef, undef, .pointer (some ⟨sb, 0, none⟩), .int .i64 (n : Int), .pointer (some ⟨sb, 0, none⟩), .pointer (some ⟨sb, 1, none⟩), .pointer (some ⟨sb, 1 + n * 2, none⟩), .func (.func 84) #[] #[.pointer (some ⟨w.heap.size + 1 + 1 + 1, 0, none⟩)], .int .i64 y.1, .agg #[L (.ek n y.1), L (.ev n y.1)], undef, undef, undef, undef, undef, undef, undef, undef, undef, undef, undef, undef, undef, undef, undef, undef, undef, undef, undef, undef, undef, undef, undef, undef, undef, undef, undef, undef, undef, undef, undef, undef, undef, undef, undef, undef, undef, undef, undef], defers := [] }) (W.alloc (.cells #[L (.ek n y.1), L (.ev n y.1)] 155)) ((KeepsOthers.alloc _ _).from _) (KIn.of_fr fa (fun b hb => ⟨by rcases hb with z | z <;> omega, fun z => z⟩)) ⟨⟨ks, us, kv, vv, k1.fr fa (by omega) (fun g z => z.elim), k2, k3⟩, ⟨k4.below ba (by omega), k5.below ba (by omega), by simp; omega⟩, k7.alloc k7.size _⟩ ⟨W.heap.size, by omega, by simp, kn, rfl⟩)
  clear hK k1 k2 k3 k4 k5 k6 k7 fa ba kn
  simp only [encV]
  rw [e1, e2] at HH ⊢
  clear e1 e2
  gi_wp2
  exact HH.out
 case body =>
  rintro l pre y a' W hl ⟨r, hr⟩ ⟨⟨ks, us, kv, vv, k1, k2, k3⟩, ⟨k4, k5, k6⟩, k7⟩ ⟨Bx, m1, m2, m3, rfl⟩ hlt
  have hz0 := HZ0.out
  simp only at m3
  have hT1 := HT.out.below k7
  have hL1 := HL.out.below k7
  have g0 := hT1.c0
  have n0 : W.cell? ⟨w.heap.size, 0, none⟩ = some (.pointer (some ⟨t.g, 0, none⟩)) := (k4 0 (by simp)).1
  obtain ⟨⟨a1, n1, q1, e1⟩, a2, n2, q2, e2⟩ := hL1.ff n y.1
  have hml : ((c.T n y.1).map (·.1)).length = (c.T n y.1).length := List.length_map _
  have HUP := hid (upTo_any B Bx 0 (L (.ek n y.1)) (L (.ev n y.1)) (c.T n y.1) x.bg W m2 (m3 0 (by simp)).1 (m3 1 (by simp)).1 (hL1.rm.rows (.ek n y.1)) (hL1.rm.rows (.ev n y.1)) (hL1.tst n y.1) (Nat.le_of_lt (HLB.out.tb n y.1)))
  simp only
  rw [e1, e2]
  have HK1 := hid k1
  have HK2 := hid k2
  have HK4 := hid k4
  have HK5 := hid k5
  have HK7 := hid k7
  clear hT1 hL1 k1 k2 k4 k5 k7 m3 hml HSQ HKA HKB HKC hr
  obtain ⟨va, hva⟩ : ∃ z, z = verAt (c.T n y.1) x.bg := ⟨_, rfl⟩
  rw [<- hva] at HUP
  have HVA := hid hva
  clear hva
  obtain ⟨v, bo⟩ := va
  simp only at HUP
  have hsv : sv1 (c.T n) x.bg y.1 = if bo then some v else none := by unfold sv1; rw [<- HVA.out]
  have HSV := hid hsv
  clear hsv
  cases bo with
  | false =>
    gi_wp2_with (refine ⟨trivial, ?_⟩; gi_at_call 65; refine (CallsIn.inRound l (callsIn_wide.2 HUP.out)).mono ?_; rintro e w1 ⟨rfl, hb1⟩)
    have bz : Below W.heap.size W (w1.alloc (.cells #[.int .i64 v, .bool false] 121)) := hb1.alloc hb1.size _
    have fz : Fr (fun _ => False) W (w1.alloc (.cells #[.int .i64 v, .bool false] 121)) := Fr.of_below _ bz
    refine ⟨keeps_fr fz (fun g o hg ho => hg.elim), KIn.of_fr fz (fun b hb => ⟨by rcases hb with z | z <;> omega, fun z => z⟩), ⟨ks, us, kv, vv, HK1.out.fr fz (by omega) (fun g z => z.elim), HK2.out.congr (fun z => ?_), by simp at k3 ⊢; omega⟩, ⟨HK4.out.below bz (by omega), HK5.out.below bz (by omega), Nat.le_trans k6 bz.size⟩, HK7.out.trans (bz.mono HK7.out.size)⟩
    unfold gP
    rw [List.map_append]
    by_cases e : z ∈ pre.map Subtype.val
    .rw [if_pos e, if_pos (List.mem_append_left _ e)]
    .rw [if_neg e]
     by_cases e2 : z = y.1
     .subst e2; rw [if_pos (by simp), HSV.out]; rfl
     .rw [if_neg (by simp at e ⊢; exact ⟨e, e2⟩)]
  | true =>
    have HPT := hid (fun (W2 : World) (b2 : Below W.heap.size W W2) => put_int W0.heap.size (w.heap.size + 1 + 1) 0 [kv, vv] kv vv ks us y.1 v W2 (HK1.out.bk.below b2 (by omega)) (by have := b2.size; omega) rfl rfl (own_below HK1.out.kr b2) (own_below HK1.out.vr b2) HK2.out.srt (by simp at k3; omega) (fun e => by have := (HK1.out.kr.lt _ e).1; omega) (fun e => by have := (HK1.out.vr.lt _ e).1; omega) HK1.out.ds (by have := b2.size; omega))
    gi_wp2_with (first
     | (refine ⟨trivial, ?_⟩; gi_at_call 65; refine (CallsIn.inRound l (callsIn_wide.2 HUP.out)).mono ?_; rintro e w1 ⟨rfl, hb1⟩; have bz : Below W.heap.size W (w1.alloc (.cells #[.int .i64 v, .bool true] 121)) := hb1.alloc hb1.size _)
     | (refine ⟨trivial, ?_⟩; gi_at_call 68; refine (CallsIn.inRound l (callsIn_wide.2 (HPT.out _ bz))).mono ?_; rintro e w3 ⟨kv', vv', rr, rfl, R⟩))
    have fz := (Fr.of_below (fun g => g = w.heap.size + 1 + 1 \/ kv.ownBlock = some g \/ vv.ownBlock = some g) bz).trans R.fr
    have hk0 : ∀ g, kv.ownBlock = some g -> W0.heap.size <= g := fun g hg => (HK1.out.kr.lt _ hg).1
    have hv0 : ∀ g, vv.ownBlock = some g -> W0.heap.size <= g := fun g hg => (HK1.out.vr.lt _ hg).1
    refine ⟨keeps_fr fz (fun g o hg ho => ?_), KIn.of_fr fz (fun b hb => ⟨by rcases hb with z | z <;> omega, fun z => ?_⟩), ⟨_, _, kv', vv', OLM.after R, (HK2.out.put y.1 v).congr (fun z => ?_), ?_⟩, ⟨HK4.out.fr fz (by omega) (fun z => ?_), HK5.out.fr fz (by omega) (fun z => ?_), Nat.le_trans k6 fz.size⟩, HK7.out.trans (fz.below HK7.out.size (fun g hg => ?_))⟩
    .rcases hg with z | z | z
     .subst z; exact blk_cells HK1.out.bk (by simp) ho
     .exact own_cellsO HK1.out.kr z ho
     .exact own_cellsO HK1.out.vr z ho
    .rcases z with z | z | z
     .rcases hb with q | q <;> omega
     .have := hk0 _ z; rcases hb with q | q <;> omega
     .have := hv0 _ z; rcases hb with q | q <;> omega
    .unfold gP
     rw [List.map_append]
     by_cases e2 : z = y.1
     .subst e2; rw [if_pos rfl, if_pos (by simp), HSV.out]; rfl
     .rw [if_neg e2]
      by_cases e : z ∈ pre.map Subtype.val
      .rw [if_pos e, if_pos (List.mem_append_left _ e)]
      .rw [if_neg e, if_neg (by simp at e ⊢; exact ⟨e, e2⟩)]
    .have := putKs_le ks y.1; simp at k3 ⊢; omega
    .rcases z with z | z | z
     .omega
     .have := hk0 _ z; omega
     .have := hv0 _ z; omega
    .rcases z with z | z | z
     .omega
     .have := hk0 _ z; omega
     .have := hv0 _ z; omega
    .rcases hg with z | z | z
     .omega
     .have := hk0 _ z; omega
     .have := hv0 _ z; omega
 case done =>
  rintro D ys W hD rfl ⟨⟨ks, us, kv, vv, k1, k2, k3⟩, ⟨k4, k5, k6⟩, k7⟩ hK
  rw [List.attach_map_subtype_val] at k2 k3
  have hz0 := HZ0.out
  have hT1 := HT.out.below k7
  have c34 := hT1.c34
  obtain ⟨o, hrun, hit⟩ := run_rangeM W t.mb t.M hT1.mp
  have hmb := hT1.mp.lt
  have n0 : W.cell? ⟨w.heap.size, 0, none⟩ = some (.pointer (some ⟨t.g, 0, none⟩)) := (k4 0 (by simp)).1
  have hDl : D < W.heap.size := (Array.getElem?_eq_some_iff.1 hK).1
  have ba := below_alloc W o
  have HST : Hid (ST2 W0.heap.size (w.heap.size + 1 + 1) w (c.T n) x.bg t.M n t.mb W.heap.size D (c.K n).length (W.alloc o) [] ks us kv vv) := hid (⟨hit, k1.fr (Fr.of_below (fun _ => False) ba) (by omega) (fun g z => z.elim), k2.congr (fun y => by
   rw [gD_nil]
   unfold gP
   by_cases e : y ∈ c.K n
   .rw [if_pos e]
   .rw [if_neg e]
    have : c.T n y = [] := by
     cases hq : c.T n y with
     | nil => rfl
     | cons z r => exact absurd ((HL.out.mem n y).2 (by rw [hq]; simp)) e
    unfold sv1
    rw [this]
    rfl), by simp; omega, List.nodup_nil, fun k h => absurd h (by simp), k5.below ba (by omega), k7.alloc k7.size _, by rw [Below.heap_alloc W o D hDl]; exact hK, by simp; omega⟩)
  have hWW : w.heap.size <= W.heap.size := k7.size
  have hW0l : W0.heap.size <= W.heap.size := k6
  clear k1 k2 k3 k4 k5 k6 k7 hT1 hit HSQ HKA HKB HKC ba
  gi_wp2
  gi_loopw [] (fun wr => ∃ Dn ks us kv vv, Hid (ST2 W0.heap.size (w.heap.size + 1 + 1) w (c.T n) x.bg t.M n t.mb W.heap.size D (c.K n).length wr Dn ks us kv vv)) (fun wr => wr.rangeLeft t.mb W.heap.size)
  case atStart => exact ⟨[], ks, us, kv, vv, HST⟩
  case round =>
   clear HST hrun hK n0 c34
   obtain ⟨Dn, ks, us, kv, vv, HST⟩ := hrel
   have hst := HST.out
   have hrl := hst.it.lt
   rcases hst.it.next 0 with ⟨hall, hrun⟩ | ⟨m, w1, hm, hnD, hrun, hit1, hf1, hz1, hlt, hen⟩
   .have HFO : Hid (OrdL ks us (fun y => svO ((mget t.M ((n : Int), y)).getD (verAt (c.T n y) x.bg)))) := hid (hst.od.congr (fun y => by
     unfold gD
     by_cases e : ((n : Int), y) ∈ Dn
     .rw [if_pos e]
      obtain ⟨v, hv⟩ := hst.hd _ e
      rw [mget_mem hst.it.mp.nodup hv]
      rfl
     .rw [if_neg e]
      have : mget t.M ((n : Int), y) = none := by
       cases hq : mget t.M ((n : Int), y) with
       | none => rfl
       | some z => exact absurd (hall _ (mget_some hq)) e
      rw [this]
      rfl))
    have hlen : ks.length < 1048576 := by
     have h1 := hst.kl
     have h2 := sub_len (D := Dn) (E := t.M.map Prod.fst) hst.nd (fun d hd => by obtain ⟨v, hv⟩ := hst.hd d hd; exact List.mem_map_of_mem hv)
     rw [List.length_map] at h2
     omega
    obtain ⟨ka, kc, hkf⟩ := formR hst.ol.kr
    obtain ⟨va, vc, hvf⟩ := formR hst.ol.vr
    subst hkf hvf
    obtain ⟨l0, l1⟩ := kc1 hst.ol.bk
    obtain ⟨⟨r0, f0⟩, ⟨r1, f1⟩⟩ := kb1 hst.rb
    obtain ⟨Wf, hWf⟩ : ∃ z, z = (wr.setCell ⟨w.heap.size + 1, 0, none⟩ (.slice ka ks.length kc)).setCell ⟨w.heap.size + 1, 1, none⟩ (.slice va ks.length vc) := ⟨_, rfl⟩
    have ff : Fr (fun g => g = w.heap.size + 1) wr Wf := by rw [hWf]; exact (Fr.setCell _ _ _ _).trans (Fr.setCell _ _ _ _)
    have kf : Blk Wf (w.heap.size + 1) [.slice ka ks.length kc, .slice va ks.length vc] := by rw [hWf]; exact (hst.rb.set 0 (.slice ka ks.length kc) (by simp)).set 1 (.slice va ks.length vc) (by simp)
    have hDr : D ≠ w.heap.size + 1 := fun e => df_blk hst.df hst.rb (by simp) e.symm
    have hDl : D < wr.heap.size := (Array.getElem?_eq_some_iff.1 hst.df).1
    have df : Wf.heap[D]? = some (.deferred (some [])) := (ff.block D hDl hDr).trans hst.df
    have nk : ∀ g, (Value.slice ka ks.length kc).ownBlock = some g -> ¬ g = w.heap.size + 1 := fun g hg e => by have := (hst.ol.kr.lt g hg).1; omega
    have nv : ∀ g, (Value.slice va ks.length vc).ownBlock = some g -> ¬ g = w.heap.size + 1 := fun g hg e => by have := (hst.ol.vr.lt g hg).1; omega
    have HR : Hid ((Wf.putObj D (.deferred none)).ownsRow w.heap.size 3 1 (.slice ka ks.length kc) ks.length (ks.map (Value.int .i64)) /\ (Wf.putObj D (.deferred none)).ownsRow w.heap.size 3 1 (.slice va ks.length vc) ks.length (us.map (Value.int .i64)) /\ Below w.heap.size w (Wf.putObj D (.deferred none)) /\ Blk (Wf.putObj D (.deferred none)) (w.heap.size + 1) [.slice ka ks.length kc, .slice va ks.length vc]) := hid (by
     have bf : Below w.heap.size w Wf := hst.be.trans (ff.below hst.be.size (fun g e => by rw [e]; omega))
     have go := grownBy_putObj' Wf D (.deferred none)
     have gr : ∀ r, some D = some r -> ∃ o : Obj, Wf.heap[r]? = some o /\ o.isCells = false := fun r e => by cases e; exact ⟨_, df, rfl⟩
     exact ⟨own_bs (own_owned (own_fr hst.ol.kr ff nk) go gr) (by omega), own_bs (own_owned (own_fr hst.ol.vr ff nv) go gr) (by omega), bf.trans (belowK_b (w := w) (Nat.le_refl _) Wf D _ _ (by omega) df rfl rfl), kf.owned go gr⟩)
    obtain ⟨t0, t1⟩ := kc1 HR.out.2.2.2
    have HDF := hid df
    have HWF := hid hWf
    clear hst HST hall ff kf hDr df nk nv hWf
    gi_wp2
    rw [<- HWF.out]
    refine ⟨by simp, .inl ⟨_, _, rfl, run_takeDeferred HDF.out, ?_⟩⟩
    exact ⟨.agg #[.slice ka ks.length kc, .slice va ks.length vc], by simp [results, Tryz.results46, go_sem, t0, t1], _, _, ks, us, rfl, HR.out.1, HR.out.2.1, HFO.out, hlen, HR.out.2.2.1⟩
   .obtain ⟨⟨a, y⟩, v, b⟩ := m
    have hz0 := HZ0.out
    have hs1 := hf1.size
    obtain ⟨w3, hw3⟩ : ∃ z, z = (w1.alloc (.cells #[.int .i64 a, .int .i64 y] 113)).alloc (.cells #[.int .i64 v, .bool b] 121) := ⟨_, rfl⟩
    have b3 : Below w1.heap.size w1 w3 := by rw [hw3]; exact (below_alloc w1 _).trans ((below_alloc _ _).mono (by simp))
    have q1 := it_blk hst.it hst.ol.bk (by simp)
    have q2 := it_own hst.it hst.ol.kr
    have q3 := it_own hst.it hst.ol.vr
    have ol3 : OLM 0 W0.heap.size (w.heap.size + 1 + 1) w3 ks us kv vv := (hst.ol.fr hf1 (by omega) (fun g e => by
     subst e
     exact ⟨fun z => q1.1 z.symm, q2.1, q3.1⟩)).fr (Fr.of_below (fun _ => False) b3) (by omega) (fun g z => z.elim)
    have hs3 := b3.size
    have hkl : ks.length < 1048576 := by
     have h1 := hst.kl
     have h2 := sub_len (D := Dn) (E := t.M.map Prod.fst) hst.nd (fun d hd => by obtain ⟨v, hv⟩ := hst.hd d hd; exact List.mem_map_of_mem hv)
     rw [List.length_map] at h2
     omega
    have hmg : mget t.M (a, y) = some (v, b) := mget_mem hst.it.mp.nodup hm
    have nk : (kv.ownBlock ≠ some (w.heap.size + 1 + 1)) := fun e => by have := (hst.ol.kr.lt _ e).1; omega
    have nv : (vv.ownBlock ≠ some (w.heap.size + 1 + 1)) := fun e => by have := (hst.ol.vr.lt _ e).1; omega
    have hlw : w.heap.size + 1 + 1 < w3.heap.size := by have := hst.b0l; omega
    have hBw : W0.heap.size <= w3.heap.size := by have := hst.b0l; omega
    have HPT := hid (put_int W0.heap.size (w.heap.size + 1 + 1) 0 [kv, vv] kv vv ks us y v w3 ol3.bk hlw rfl rfl ol3.kr ol3.vr hst.od.srt hkl nk nv ol3.ds hBw)
    have HDR := hid (drop_int W0.heap.size (w.heap.size + 1 + 1) 0 [kv, vv] kv vv ks us y w3 ol3.bk hlw rfl rfl ol3.kr ol3.vr hst.od.srt hkl nk nv ol3.ds)
    have HSTEP := hid (fun (S : Nat -> Prop) (w4 : World) (ks' us' : List Int) (kv' vv' : Value) => ST2.step (w4 := w4) (ks' := ks') (us' := us') (kv' := kv') (vv' := vv') (S := S) hst rfl hz0 hm hnD hit1 hf1 hlt hWW b3)
    have HOL := hid ol3
    have HOD := hid hst.od
    have HMG := hid hmg
    have HW3 := hid hw3
    clear hst HST ol3 hmg hw3 q1 q2 q3 hit1 hf1 hlt b3 nk nv hm hnD
    simp only [sptV, vsnV] at hrun hen
    by_cases han : a = (n : Int)
    .subst han
     have fac : ((n : Int) != (n : Int)) = false := by simp
     cases b with
     | true =>
       gi_wp2_with (refine ⟨trivial, ?_⟩; rw [<- HW3.out]; gi_at_call 68; refine (callsIn_wide.2 HPT.out).mono ?_; rintro e w4 ⟨kv', vv', rr, rfl, R⟩)
       have HN := hid (HSTEP.out _ w4 _ _ kv' vv' (fun g z => z) R.fr (OLM.after R) ((HOD.out.put y v).congr (fun z => by rw [gD_same _ _ _ _ _ _ _ _ HMG.out]; rfl)) (putKs_le ks y))
       clear HSTEP R
       go_roundw
       case rel => exact ⟨_, _, _, _, _, hid HN.out.1⟩
       case measure => exact HN.out.2
     | false =>
       gi_wp2_with (refine ⟨trivial, ?_⟩; rw [<- HW3.out]; gi_at_call 69; refine (callsIn_wide.2 HDR.out).mono ?_; rintro e w4 ⟨kv', vv', rr, rfl, R⟩)
       have HN := hid (HSTEP.out _ w4 _ _ kv' vv' (fun g z => z) R.fr (OLM.after R) ((HOD.out.drop y).congr (fun z => by rw [gD_same _ _ _ _ _ _ _ _ HMG.out]; rfl)) (Nat.le_succ_of_le (dropKs_le ks y)))
       clear HSTEP R
       go_roundw
       case rel => exact ⟨_, _, _, _, _, hid HN.out.1⟩
       case measure => exact HN.out.2
    .have fac : (a != (n : Int)) = true := by simpa using han
     have HN := hid (HSTEP.out (fun _ => False) w3 ks us kv vv (fun g z => z.elim) (Fr.refl _ _) HOL.out (HOD.out.congr (fun z => (gD_other _ _ _ _ _ _ _ _ han).symm)) (Nat.le_succ _))
     clear HSTEP HPT HDR
     gi_wp2
     rw [<- HW3.out]
     go_roundw
     case rel => exact ⟨_, _, _, _, _, hid HN.out.1⟩
     case measure => exact HN.out.2
 case stop =>
  rintro D c pre W _ _ h _
  exact h.elim
end Go.Proofs.YtblkgicbimflhaaGreat
