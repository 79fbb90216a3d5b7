import Derived.Test.YtblkgicbimflhaaGreatQAK
import Derived.Deep.RegionWith
import Derived.Deep.RegionHeld3
import Derived.OrdersHeld
import Derived.RegionTactic
import Derived.Test.YtblkgicbimflhaaGreatQAM
namespace Go.Proofs.YtblkgicbimflhaaGreat
open Go.ChangeShapes Go.WideShapes Go.ChangeAt Go.RowKit
set_option linter.unusedVariables false
set_option linter.unusedSimpArgs false
set_option maxRecDepth 100000
set_option maxHeartbeats 16000000
def putKs (ks : List Int) (x : Int) : List Int := if ks.contains x then ks else ks.take (posN ks x) ++ [x] ++ ks.drop (posN ks x)
def putVs {α : Type} (ks : List Int) (us : List α) (x : Int) (u : α) : List α := if ks.contains x then us.set (posN ks x) u else us.take (posN ks x) ++ [u] ++ us.drop (posN ks x)
theorem putKs_len (ks : List Int) (x : Int) (h : ks.contains x = false) : (putKs ks x).length = ks.length + 1 := by
 unfold putKs
 rw [if_neg (by rw [h]; decide)]
 have := posN_le ks x
 simp only [List.length_append, List.length_take, List.length_drop, List.length_cons, List.length_nil]
 omega
structure PSt (B e K n p : Nat) (w1 : World) (kv vv : Value) (xs ys kx vx : List Value) (kd vd : Bool) (Wp : World) (kv' vv' : Value) : Prop where
 fr : Fr (fun g => kv.ownBlock = some g \/ vv.ownBlock = some g) w1 Wp
 kr : if kd then Wp.ownsRow B 3 1 kv' (n + 1) (xs.take (p * 1) ++ kx ++ xs.drop (p * 1)) else kv' = kv /\ Wp.ownsRow B 3 1 kv n xs
 vr : if vd then Wp.ownsRow B e K vv' (n + 1) (ys.take (p * K) ++ vx ++ ys.drop (p * K)) else vv' = vv /\ Wp.ownsRow B e K vv n ys
 kn : ∀ g, kv'.ownBlock = some g -> kv.ownBlock = some g \/ w1.heap.size <= g
 vn : ∀ g, vv'.ownBlock = some g -> vv.ownBlock = some g \/ w1.heap.size <= g
 kl : ∀ g, kv.ownBlock = some g -> g < w1.heap.size
 vl : ∀ g, vv.ownBlock = some g -> g < w1.heap.size
 dd : ∀ g, kv.ownBlock = some g -> vv.ownBlock ≠ some g
 ds : ∀ g, kv'.ownBlock = some g -> vv'.ownBlock ≠ some g
theorem callK_int {B n p : Nat} {w1 : World} {kv vv : Value} {xs ys vx : List Value} {x : Int} {vd : Bool} {Wp W : World} {kv' vv' : Value} {vb : Nat} (h : PSt B 3 1 n p w1 kv vv xs ys [.int .i64 x] vx false vd Wp kv' vv') (hb : Below Wp.heap.size Wp W) (hvk : W.heap[vb]? = some (.cells #[.int .i64 x] 3 (0, 0))) (hvb : w1.heap.size <= vb) (hp : p <= n) (hn : n <= 1048576) (hx1 : ∀ u ∈ xs, u.oneCell' = true) (hB : B <= w1.heap.size) :
 Calls Tryz.prog 85 #[kv, .int .i64 (p : Int), .slice (some ⟨vb, 0, none⟩) 1 1] W fun en W2 => ∃ a c, en = .returned (.slice a (n + 1) c) /\ PSt B 3 1 n p w1 kv vv xs ys [.int .i64 x] vx true vd W2 (.slice a (n + 1) c) vv' /\ ∀ g, w1.heap.size <= g -> g < W.heap.size -> W2.heap[g]? = W.heap[g]? := by
 have hkr := h.kr
 simp only [Bool.false_eq_true, if_false] at hkr
 have hs := h.fr.size
 have hbs := hb.size
 refine (ins_int B n p kv xs [.int .i64 x] vb W (own_below hkr.2 hb) hp hn rfl hvk (by simp [Value.oneCell']) hx1 (fun z => by have := h.kl _ z; omega) (by omega)).mono ?_
 rintro en W2 ⟨a, c, rfl, ho, hg, hf⟩
 have hfr : Fr (fun g => kv.ownBlock = some g) W W2 := Fr.grown hg
 refine ⟨a, c, rfl, ⟨(h.fr.trans (Fr.of_below _ hb)).then hfr (fun g z => .inl (.inl z)), by simpa using ho, ?_, fun g z => ?_, h.vn, h.kl, h.vl, h.dd, fun g z1 z2 => ?_⟩, fun g h1 h2 => hfr.block g h2 (fun z => by have := h.kl _ z; omega)⟩
 .have hvr := h.vr
  cases vd
  .simp only [Bool.false_eq_true, if_false] at hvr ⊢
   exact ⟨hvr.1, own_fr (own_below hvr.2 hb) hfr (fun g z1 z2 => h.dd g z2 z1)⟩
  .simp only [if_true] at hvr ⊢
   refine own_fr (own_below hvr hb) hfr (fun g z1 z2 => ?_)
   rcases h.vn g z1 with y | y
   .exact h.dd g z2 y
   .have := h.kl g z2; omega
 .rcases hf g z with y | y
  .exact .inl y
  .exact .inr (by omega)
 .rcases hf g z1 with y | y
  .rcases h.vn g z2 with q | q
   .exact h.dd g y q
   .have := h.kl g y; omega
  .have hvr := h.vr
   have hlt : g < Wp.heap.size := by
    cases vd
    .simp only [Bool.false_eq_true, if_false] at hvr
     rw [hvr.1] at z2
     exact (hvr.2.lt g z2).2
    .simp only [if_true] at hvr
     exact (hvr.lt g z2).2
   omega
theorem callV_int {B n p : Nat} {w1 : World} {kv vv : Value} {xs ys kx vx : List Value} {kd : Bool} {Wp W : World} {kv' vv' : Value} {vb : Nat} (h : PSt B 3 1 n p w1 kv vv xs ys kx vx kd false Wp kv' vv') (hb : Below Wp.heap.size Wp W) (hvk : W.heap[vb]? = some (.cells vx.toArray 3 (0, 0))) (hvb : w1.heap.size <= vb) (hp : p <= n) (hn : n <= 1048576) (hvl : vx.length = 1) (hv1 : ∀ u ∈ vx, u.oneCell' = true) (hy1 : ∀ u ∈ ys, u.oneCell' = true) (hB : B <= w1.heap.size) :
 Calls Tryz.prog 85 #[vv, .int .i64 (p : Int), .slice (some ⟨vb, 0, none⟩) 1 1] W fun en W2 => ∃ a c, en = .returned (.slice a (n + 1) c) /\ PSt B 3 1 n p w1 kv vv xs ys kx vx kd true W2 kv' (.slice a (n + 1) c) /\ ∀ g, w1.heap.size <= g -> g < W.heap.size -> W2.heap[g]? = W.heap[g]? := by
 have hvr := h.vr
 simp only [Bool.false_eq_true, if_false] at hvr
 have hs := h.fr.size
 have hbs := hb.size
 refine (ins_int B n p vv ys vx vb W (own_below hvr.2 hb) hp hn hvl hvk hv1 hy1 (fun z => by have := h.vl _ z; omega) (by omega)).mono ?_
 rintro en W2 ⟨a, c, rfl, ho, hg, hf⟩
 have hfr : Fr (fun g => vv.ownBlock = some g) W W2 := Fr.grown hg
 refine ⟨a, c, rfl, ⟨(h.fr.trans (Fr.of_below _ hb)).then hfr (fun g z => .inl (.inr z)), ?_, by simpa using ho, h.kn, fun g z => ?_, h.kl, h.vl, h.dd, fun g z1 z2 => ?_⟩, fun g h1 h2 => hfr.block g h2 (fun z => by have := h.vl _ z; omega)⟩
 .have hkr := h.kr
  cases kd
  .simp only [Bool.false_eq_true, if_false] at hkr ⊢
   exact ⟨hkr.1, own_fr (own_below hkr.2 hb) hfr (fun g z1 z2 => h.dd g z1 z2)⟩
  .simp only [if_true] at hkr ⊢
   refine own_fr (own_below hkr hb) hfr (fun g z1 z2 => ?_)
   rcases h.kn g z1 with y | y
   .exact h.dd g y z2
   .have := h.vl g z2; omega
 .rcases hf g z with y | y
  .exact .inl y
  .exact .inr (by omega)
 .rcases hf g z2 with y | y
  .rcases h.kn g z1 with q | q
   .exact h.dd g q y
   .have := h.vl g y; omega
  .have hkr := h.kr
   have hlt : g < Wp.heap.size := by
    cases kd
    .simp only [Bool.false_eq_true, if_false] at hkr
     rw [hkr.1] at z1
     exact (hkr.2.lt g z1).2
    .simp only [if_true] at hkr
     exact (hkr.lt g z1).2
   omega
theorem put_end_int {B b o n p : Nat} {w w1 : World} {cs : List Value} {kv vv : Value} {ks' : List Int} {xs ys kx vx zs : List Value} {Wp : World} {kv' vv' : Value} (h : PSt B 3 1 n p w1 kv vv xs ys kx vx true true Wp kv' vv') (hw : Below w.heap.size w w1) (hsz : w1.heap.size = w.heap.size) (hb : Blk w1 b cs) (hbl : b < w.heap.size) (ho1 : o + 1 < cs.length) (hkb : kv.ownBlock ≠ some b) (hvb : vv.ownBlock ≠ some b) (hkl : ks'.length = n + 1) (hke : ks'.map (Value.int .i64) = xs.take (p * 1) ++ kx ++ xs.drop (p * 1)) (hze : zs = ys.take (p * 1) ++ vx ++ ys.drop (p * 1)) (r : Value) :
 PutP B b o 3 1 w cs kv vv ks' zs (.returned r) ((Wp.setCell ⟨b, o, none⟩ kv').setCell ⟨b, o + 1, none⟩ vv') := by
 have hkr := h.kr
 have hvr := h.vr
 simp only [if_true] at hkr hvr
 have hb2 : Blk Wp b cs := hb.fr h.fr (by omega) (fun z => by rcases z with z | z; exact hkb z; exact hvb z)
 have n1 : ∀ g, kv'.ownBlock = some g -> g ≠ b := fun g hg e => by
  subst e
  rcases h.kn g hg with z | z
  .exact hkb z
  .omega
 have n2 : ∀ g, vv'.ownBlock = some g -> g ≠ b := fun g hg e => by
  subst e
  rcases h.vn g hg with z | z
  .exact hvb z
  .omega
 have f1 := Fr.setCell Wp b o kv'
 have f2 := Fr.setCell (Wp.setCell ⟨b, o, none⟩ kv') b (o + 1) vv'
 refine ⟨kv', vv', r, rfl, (hb2.set o kv' (by omega)).set (o + 1) vv' (by simpa using ho1), ?_, ?_, ?_, fun g hg => ?_, fun g hg => ?_, h.ds⟩
 .rw [hkl, hke]
  exact own_fr (own_fr hkr f1 (fun g hg e => n1 g hg e)) f2 (fun g hg e => n1 g hg e)
 .rw [hkl, hze]
  exact own_fr (own_fr hvr f1 (fun g hg e => n2 g hg e)) f2 (fun g hg e => n2 g hg e)
 .exact ((((Fr.of_below _ hw).trans (h.fr.mono (fun g z => by rcases z with z | z; exact .inr (.inl z); exact .inr (.inr z)))).trans (f1.mono (fun g z => .inl z))).trans (f2.mono (fun g z => .inl z)))
 .have := h.kn g hg; rw [hsz] at this; exact this
 .have := h.vn g hg; rw [hsz] at this; exact this
theorem callK_vss {B n p : Nat} {w1 : World} {kv vv : Value} {xs ys vx : List Value} {x : Int} {vd : Bool} {Wp W : World} {kv' vv' : Value} {vb : Nat} (h : PSt B 155 2 n p w1 kv vv xs ys [.int .i64 x] vx false vd Wp kv' vv') (hb : Below Wp.heap.size Wp W) (hvk : W.heap[vb]? = some (.cells #[.int .i64 x] 3 (0, 0))) (hvb : w1.heap.size <= vb) (hp : p <= n) (hn : n <= 1048576) (hx1 : ∀ u ∈ xs, u.oneCell' = true) (hB : B <= w1.heap.size) :
 Calls Tryz.prog 85 #[kv, .int .i64 (p : Int), .slice (some ⟨vb, 0, none⟩) 1 1] W fun en W2 => ∃ a c, en = .returned (.slice a (n + 1) c) /\ PSt B 155 2 n p w1 kv vv xs ys [.int .i64 x] vx true vd W2 (.slice a (n + 1) c) vv' /\ ∀ g, w1.heap.size <= g -> g < W.heap.size -> W2.heap[g]? = W.heap[g]? := by
 have hkr := h.kr
 simp only [Bool.false_eq_true, if_false] at hkr
 have hs := h.fr.size
 have hbs := hb.size
 refine (ins_int B n p kv xs [.int .i64 x] vb W (own_below hkr.2 hb) hp hn rfl hvk (by simp [Value.oneCell']) hx1 (fun z => by have := h.kl _ z; omega) (by omega)).mono ?_
 rintro en W2 ⟨a, c, rfl, ho, hg, hf⟩
 have hfr : Fr (fun g => kv.ownBlock = some g) W W2 := Fr.grown hg
 refine ⟨a, c, rfl, ⟨(h.fr.trans (Fr.of_below _ hb)).then hfr (fun g z => .inl (.inl z)), by simpa using ho, ?_, fun g z => ?_, h.vn, h.kl, h.vl, h.dd, fun g z1 z2 => ?_⟩, fun g h1 h2 => hfr.block g h2 (fun z => by have := h.kl _ z; omega)⟩
 .have hvr := h.vr
  cases vd
  .simp only [Bool.false_eq_true, if_false] at hvr ⊢
   exact ⟨hvr.1, own_fr (own_below hvr.2 hb) hfr (fun g z1 z2 => h.dd g z2 z1)⟩
  .simp only [if_true] at hvr ⊢
   refine own_fr (own_below hvr hb) hfr (fun g z1 z2 => ?_)
   rcases h.vn g z1 with y | y
   .exact h.dd g z2 y
   .have := h.kl g z2; omega
 .rcases hf g z with y | y
  .exact .inl y
  .exact .inr (by omega)
 .rcases hf g z1 with y | y
  .rcases h.vn g z2 with q | q
   .exact h.dd g y q
   .have := h.kl g y; omega
  .have hvr := h.vr
   have hlt : g < Wp.heap.size := by
    cases vd
    .simp only [Bool.false_eq_true, if_false] at hvr
     rw [hvr.1] at z2
     exact (hvr.2.lt g z2).2
    .simp only [if_true] at hvr
     exact (hvr.lt g z2).2
   omega
theorem callV_vss {B n p : Nat} {w1 : World} {kv vv : Value} {xs ys kx vx : List Value} {kd : Bool} {Wp W : World} {kv' vv' : Value} {vb : Nat} (h : PSt B 155 2 n p w1 kv vv xs ys kx vx kd false Wp kv' vv') (hb : Below Wp.heap.size Wp W) (hvk : W.heap[vb]? = some (.cells vx.toArray 155 (0, 0))) (hvb : w1.heap.size <= vb) (hp : p <= n) (hn : n <= 1048576) (hvl : vx.length = 2) (hv1 : ∀ u ∈ vx, u.oneCell' = true) (hy1 : ∀ u ∈ ys, u.oneCell' = true) (hB : B <= w1.heap.size) :
 Calls Tryz.prog 105 #[vv, .int .i64 (p : Int), .slice (some ⟨vb, 0, none⟩) 1 1] W fun en W2 => ∃ a c, en = .returned (.slice a (n + 1) c) /\ PSt B 155 2 n p w1 kv vv xs ys kx vx kd true W2 kv' (.slice a (n + 1) c) /\ ∀ g, w1.heap.size <= g -> g < W.heap.size -> W2.heap[g]? = W.heap[g]? := by
 have hvr := h.vr
 simp only [Bool.false_eq_true, if_false] at hvr
 have hs := h.fr.size
 have hbs := hb.size
 refine (ins_vss B n p vv ys vx vb W (own_below hvr.2 hb) hp hn hvl hvk hv1 hy1 (fun z => by have := h.vl _ z; omega) (by omega)).mono ?_
 rintro en W2 ⟨a, c, rfl, ho, hg, hf⟩
 have hfr : Fr (fun g => vv.ownBlock = some g) W W2 := Fr.grown hg
 refine ⟨a, c, rfl, ⟨(h.fr.trans (Fr.of_below _ hb)).then hfr (fun g z => .inl (.inr z)), ?_, by simpa using ho, h.kn, fun g z => ?_, h.kl, h.vl, h.dd, fun g z1 z2 => ?_⟩, fun g h1 h2 => hfr.block g h2 (fun z => by have := h.vl _ z; omega)⟩
 .have hkr := h.kr
  cases kd
  .simp only [Bool.false_eq_true, if_false] at hkr ⊢
   exact ⟨hkr.1, own_fr (own_below hkr.2 hb) hfr (fun g z1 z2 => h.dd g z1 z2)⟩
  .simp only [if_true] at hkr ⊢
   refine own_fr (own_below hkr hb) hfr (fun g z1 z2 => ?_)
   rcases h.kn g z1 with y | y
   .exact h.dd g y z2
   .have := h.vl g z2; omega
 .rcases hf g z with y | y
  .exact .inl y
  .exact .inr (by omega)
 .rcases hf g z2 with y | y
  .rcases h.kn g z1 with q | q
   .exact h.dd g q y
   .have := h.vl g y; omega
  .have hkr := h.kr
   have hlt : g < Wp.heap.size := by
    cases kd
    .simp only [Bool.false_eq_true, if_false] at hkr
     rw [hkr.1] at z1
     exact (hkr.2.lt g z1).2
    .simp only [if_true] at hkr
     exact (hkr.lt g z1).2
   omega
theorem hnA (X : World) (o : Obj) : (X.alloc o).heap[X.heap.size]? = some o := Array.getElem?_push_size
theorem hnB (X : World) (o : Obj) : (X.alloc o).drew.heap[X.heap.size]? = some o := Array.getElem?_push_size
theorem hnC (X : World) (o o2 : Obj) : ((X.alloc o).alloc o2).heap[X.heap.size]? = some o := by rw [Below.heap_alloc _ _ _ (by simp)]; exact hnA X o
theorem hnD (X : World) (o o2 : Obj) : ((X.alloc o).alloc o2).drew.heap[X.heap.size]? = some o := hnC X o o2
theorem hnE (X : World) (o o2 : Obj) : ((X.alloc o).alloc o2).heap[X.heap.size + 1]? = some o2 := by
 have := hnA (X.alloc o) o2
 simpa using this
theorem hnF (X : World) (o o2 : Obj) : ((X.alloc o).alloc o2).drew.heap[X.heap.size + 1]? = some o2 := hnE X o o2
end Go.Proofs.YtblkgicbimflhaaGreat
namespace Go.Proofs.YtblkgicbimflhaaGreat
open Go.ChangeShapes Go.WideShapes Go.ChangeAt Go.RowKit
set_option linter.unusedVariables false
set_option linter.unusedSimpArgs false
set_option maxRecDepth 100000
set_option maxHeartbeats 16000000
section
variable {P : Program} {ops : Array Oper} {Q : Exit -> Act -> World -> Prop} {md : Region.Mode} {S : World -> Prop} {late : List Nat}
def Early (late : List Nat) (listed : Array Bool) : Prop := ∀ l ∈ late, listed.getD l true = false
def wpTill (P : Program) (md : Region.Mode) (ops : Array Oper) (Q : Exit -> Act -> World -> Prop) (S : World -> Prop) (late : List Nat) : Nat -> Array Bool -> Act -> World -> Prop
 | 0, listed, a, w => Region.ready md ops listed = [] /\ Q .normal a w
 | f + 1, listed, a, w => (Region.ready md ops listed = [] -> Q .normal a w) /\ ∀ i ∈ Region.ready md ops listed, wpOp P ops Q i (fun a' w' => (Early late (listed.setIfInBounds i true) -> S w') /\ wpTill P md ops Q S late f (listed.setIfInBounds i true) a' w') a w
theorem wpTill.any : ∀ (f : Nat) (listed : Array Bool) (a : Act) (w : World), wpTill P md ops Q S late f listed a w -> wpAny P md ops Q f listed a w
 | 0, _, _, _, h => h
 | f + 1, _, _, _, h => ⟨h.1, fun i hi => wpOp_mono (fun a' w' z => wpTill.any f _ a' w' z.2) (h.2 i hi)⟩
theorem early_set {listed : Array Bool} {i : Nat} (hi : ¬ i ∈ late) : Early late (listed.setIfInBounds i true) ↔ Early late listed := by
 constructor
 .intro h l hl
  have := h l hl
  rw [getD_set_ne true (show i ≠ l from fun z => hi (by rw [z]; exact hl))] at this
  exact this
 .intro h l hl
  rw [getD_set_ne true (show i ≠ l from fun z => hi (by rw [z]; exact hl))]
  exact h l hl
theorem unlisted {listed : Array Bool} {i : Nat} (h : listed.getD i true = false) : listed.getD i false = false := by
 rcases Nat.lt_or_ge i listed.size with z | z
 .simp [z] at h ⊢; exact h
 .simp [Array.getElem?_eq_none z] at h
theorem waits_no {listed : Array Bool} {i j : Nat} {oj : Oper} (hi : i ∈ Region.ready md ops listed) (hj : j ∈ Region.ready md ops listed) (hoj : ops[j]? = some oj) : ∀ e ∈ oj.after, Region.binds md e = true -> e.on ≠ i := fun e he hb z => by
 obtain ⟨_, o, ho, hall⟩ := mem_ready.1 hj
 rw [hoj] at ho
 injection ho with ho
 subst ho
 have h1 := hall e he hb
 rw [z, unlisted (mem_ready.1 hi).1] at h1
 cases h1
theorem free_set {listed : Array Bool} {i j : Nat} {oi : Oper} (hjun : listed.getD j true = false) (h : ∀ k ok, ops[k]? = some ok -> k ≠ i -> listed.getD k true = false -> (∀ e ∈ ok.after, Region.binds md e = true -> e.on ≠ i) -> oi.apart ops ok = true) : ∀ k ok, ops[k]? = some ok -> k ≠ i -> (listed.setIfInBounds j true).getD k true = false -> (∀ e ∈ ok.after, Region.binds md e = true -> e.on ≠ i) -> oi.apart ops ok = true := fun k ok hk hki hun hno => by
 refine h k ok hk hki ?_ hno
 by_cases e : j = k
 .rw [<- e]; exact hjun
 .rw [getD_set_ne true e] at hun; exact hun
theorem wpTill.load {i : Nat} {oi : Oper} {v : Value} (hi : ops[i]? = some oi) (hsel : ∀ (j : Nat) (o : Oper) cs b, ops[j]? = some o -> o.op ≠ .select cs b) (hQ : ∀ c a w, Q (.panic c) (a.put oi.dst v) w -> Q (.panic c) a w)
 (hlate : ∀ l ∈ late, ∃ ol, ops[l]? = some ol /\ ∃ e ∈ ol.after, Region.binds md e = true /\ e.on = i) :
 ∀ (f : Nat) (listed : Array Bool) (a : Act) (w : World),
  (∀ k ok, ops[k]? = some ok -> k ≠ i -> listed.getD k true = false -> (∀ e ∈ ok.after, Region.binds md e = true -> e.on ≠ i) -> oi.apart ops ok = true) ->
  i ∈ Region.ready md ops listed -> Early late listed -> YieldsIf P ops S oi v a -> S w ->
  wpTill P md ops Q S late f (listed.setIfInBounds i true) (a.put oi.dst v) w -> wpTill P md ops Q S late (f + 1) listed a w := by
 have hnl : ∀ listed : Array Bool, i ∈ Region.ready md ops listed -> ∀ j ∈ Region.ready md ops listed, ¬ j ∈ late := fun listed hr j hj hl => by
  obtain ⟨ol, ho, e, he, hb, hon⟩ := hlate j hl
  exact waits_no hr hj ho e he hb hon
 intro f
 induction f with
 | zero =>
   intro listed a w _ hr _ hy hS H
   refine ⟨fun z => (by rw [z] at hr; cases hr), fun j hj => ?_⟩
   by_cases hji : j = i
   .subst hji; exact hy.wpOp hi hS ⟨fun _ => hS, H⟩
   .have z := ready_mono hj hji
    rw [H.1] at z
    cases z
 | succ f ih =>
   intro listed a w hfree hr hE hy hS H
   refine ⟨fun z => (by rw [z] at hr; cases hr), fun j hj => ?_⟩
   by_cases hji : j = i
   .subst hji; exact hy.wpOp hi hS ⟨fun _ => hS, H⟩
   .obtain ⟨hjun, oj, hoj, _⟩ := mem_ready.1 hj
    have h1 := H.2 j (ready_mono hj hji)
    have h2 := wpOp_putIf hoj (hfree j oj hoj hji hjun (waits_no hr hj hoj)) (fun cs b => hsel i oi cs b hi) (fun cs b => hsel j oj cs b hoj) hQ hy h1
    have hjl := hnl listed hr j hj
    have hil := hnl listed hr i hr
    have hE1 : Early late (listed.setIfInBounds j true) := (early_set hjl).2 hE
    have hE2 : Early late ((listed.setIfInBounds i true).setIfInBounds j true) := (early_set hjl).2 ((early_set hil).2 hE)
    refine wpOp_mono (fun a' w' z => ⟨fun _ => z.2.1 hE2, ih (listed.setIfInBounds j true) a' w' (free_set hjun hfree) (ready_mono hr (Ne.symm hji)) hE1 z.1 (z.2.1 hE2) ?_⟩) h2
    rw [Array.setIfInBounds_comm _ _ hji]
    exact z.2.2
theorem wpTill.free {i : Nat} {oi : Oper} {v : Value} (hi : ops[i]? = some oi) (hsel : ∀ (j : Nat) (o : Oper) cs b, ops[j]? = some o -> o.op ≠ .select cs b) (hQ : ∀ c a w, Q (.panic c) (a.put oi.dst v) w -> Q (.panic c) a w) (hil : ¬ i ∈ late) :
 ∀ (f : Nat) (listed : Array Bool) (a : Act) (w : World),
  (∀ k ok, ops[k]? = some ok -> k ≠ i -> listed.getD k true = false -> (∀ e ∈ ok.after, Region.binds md e = true -> e.on ≠ i) -> oi.apart ops ok = true) ->
  i ∈ Region.ready md ops listed -> Yields P ops oi v a -> (Early late listed -> S w) ->
  wpTill P md ops Q S late f (listed.setIfInBounds i true) (a.put oi.dst v) w -> wpTill P md ops Q S late (f + 1) listed a w := by
 intro f
 induction f with
 | zero =>
   intro listed a w _ hr hy hS H
   refine ⟨fun z => (by rw [z] at hr; cases hr), fun j hj => ?_⟩
   by_cases hji : j = i
   .subst hji; exact hy.wpOp hi ⟨fun z => hS ((early_set hil).1 z), H⟩
   .have z := ready_mono hj hji
    rw [H.1] at z
    cases z
 | succ f ih =>
   intro listed a w hfree hr hy hS H
   refine ⟨fun z => (by rw [z] at hr; cases hr), fun j hj => ?_⟩
   by_cases hji : j = i
   .subst hji; exact hy.wpOp hi ⟨fun z => hS ((early_set hil).1 z), H⟩
   .obtain ⟨hjun, oj, hoj, _⟩ := mem_ready.1 hj
    have h1 := H.2 j (ready_mono hj hji)
    have h2 := wpOp_put hoj (hfree j oj hoj hji hjun (waits_no hr hj hoj)) (fun cs b => hsel i oi cs b hi) (fun cs b => hsel j oj cs b hoj) hQ hy h1
    have hcomm : (listed.setIfInBounds i true).setIfInBounds j true = (listed.setIfInBounds j true).setIfInBounds i true := Array.setIfInBounds_comm _ _ (Ne.symm hji)
    have hSS : ∀ w' : World, (Early late ((listed.setIfInBounds i true).setIfInBounds j true) -> S w') -> Early late (listed.setIfInBounds j true) -> S w' := fun w' z y => z (by rw [hcomm]; exact (early_set hil).2 y)
    refine wpOp_mono (fun a' w' z => ⟨hSS w' z.2.1, ih (listed.setIfInBounds j true) a' w' (free_set hjun hfree) (ready_mono hr (Ne.symm hji)) z.1 (hSS w' z.2.1) ?_⟩) h2
    rw [<- hcomm]
    exact z.2.2
end
end Go.Proofs.YtblkgicbimflhaaGreat
namespace Go.Proofs.YtblkgicbimflhaaGreat
open Go.ChangeShapes Go.WideShapes Go.ChangeAt Go.RowKit
set_option linter.unusedVariables false
set_option linter.unusedSimpArgs false
set_option maxRecDepth 100000
set_option maxHeartbeats 16000000
section
variable {P : Program} {ops : Array Oper} {Q : Exit -> Act -> World -> Prop} {md : Region.Mode} {S : World -> Prop} {late : List Nat}
def lateB (md : Region.Mode) (ops : Array Oper) (late : List Nat) (i : Nat) : Bool := late.all fun l => match ops[l]? with
 | some ol => ol.after.any (fun e => Region.binds md e && e.on == i)
 | none => false
def earlyB (late : List Nat) (listed : Array Bool) : Bool := late.all fun l => !listed.getD l true
theorem early_of {listed : Array Bool} (h : earlyB late listed = true) : Early late listed := fun l hl => by
 have := List.all_eq_true.1 h l hl
 simpa using this
theorem early_not {listed : Array Bool} (h : earlyB late listed = false) : ¬ Early late listed := fun z => by
 have : earlyB late listed = true := List.all_eq_true.2 fun l hl => by simpa using z l hl
 rw [h] at this; cases this
theorem late_of {i : Nat} (h : lateB md ops late i = true) : ∀ l ∈ late, ∃ ol, ops[l]? = some ol /\ ∃ e ∈ ol.after, Region.binds md e = true /\ e.on = i := fun l hl => by
 have h1 := List.all_eq_true.1 h l hl
 split at h1
 .rename_i ol ho
  obtain ⟨e, he, hb⟩ := Array.any_eq_true'.1 h1
  simp only [Bool.and_eq_true, beq_iff_eq] at hb
  exact ⟨ol, ho, e, he, hb⟩
 .cases h1
theorem till_take {i : Nat} {oi : Oper} {v : Value} {f : Nat} {listed : Array Bool} {a : Act} {w : World} (hi : ops[i]? = some oi) (hs : Region.noSelect ops = true) (hf : Region.free md ops listed i = true) (hr : (Region.ready md ops listed).contains i = true) (hil : late.contains i = false) (hQ : ∀ c a w, Q (.panic c) (a.put oi.dst v) w -> Q (.panic c) a w) (hy : Yields P ops oi v a) (hS : S w)
 (h : wpTill P md ops Q S late f (listed.setIfInBounds i true) (a.put oi.dst v) w) : wpTill P md ops Q S late (f + 1) listed a w :=
 wpTill.free hi (Region.noSelect_spec hs) hQ (fun z => by rw [List.contains_iff_mem.2 z] at hil; cases hil) f listed a w (Region.free_spec hi hf) (by simpa using hr) hy (fun _ => hS) h
def Closed (md : Region.Mode) (ops : Array Oper) (listed : Array Bool) : Prop := ∀ k ok, listed.getD k false = true -> ops[k]? = some ok -> ∀ e ∈ ok.after, Region.binds md e = true -> listed.getD e.on false = true
def closedB (md : Region.Mode) (ops : Array Oper) (listed : Array Bool) : Bool := (List.range ops.size).all fun k => !listed.getD k false || match ops[k]? with
 | some ok => ok.after.all (fun e => !Region.binds md e || listed.getD e.on false)
 | none => true
theorem closed_of {listed : Array Bool} (h : closedB md ops listed = true) : Closed md ops listed := fun k ok hk hok e he hb => by
 have h1 := List.all_eq_true.1 h k (List.mem_range.2 (Array.getElem?_eq_some_iff.1 hok).1)
 simp only [hk, hok, Bool.not_true, Bool.false_or] at h1
 have h2 := Array.all_eq_true_iff_forall_mem.1 h1 e he
 simpa [hb] using h2
theorem listed_mono {listed : Array Bool} {j x : Nat} (h : listed.getD x false = true) : (listed.setIfInBounds j true).getD x false = true := by
 by_cases e : j = x
 .subst e
  rcases Nat.lt_or_ge j listed.size with z | z
  .simp [z]
  .simp [Array.getElem?_eq_none z] at h
 .rw [getD_set_ne false e]; exact h
theorem Closed.set {listed : Array Bool} {j : Nat} (h : Closed md ops listed) (hj : j ∈ Region.ready md ops listed) : Closed md ops (listed.setIfInBounds j true) := fun k ok hk hok e he hb => by
 by_cases z : j = k
 .subst z
  obtain ⟨_, o, ho, hall⟩ := mem_ready.1 hj
  rw [hok] at ho
  injection ho with ho
  subst ho
  exact listed_mono (hall e he hb)
 .rw [getD_set_ne false z] at hk
  exact listed_mono (h k ok hk hok e he hb)
def waitsB (md : Region.Mode) (ops : Array Oper) : Nat -> Nat -> Nat -> Bool
 | 0, _, _ => false
 | n + 1, l, i => match ops[l]? with
   | some ol => ol.after.any fun e => Region.binds md e && (e.on == i || waitsB md ops n e.on i)
   | none => false
theorem waits_step {n l i : Nat} (h : waitsB md ops (n + 1) l i = true) : ∃ ol, ops[l]? = some ol /\ ∃ e ∈ ol.after, Region.binds md e = true /\ (e.on = i \/ waitsB md ops n e.on i = true) := by
 unfold waitsB at h
 split at h
 .rename_i ol ho
  obtain ⟨e, he, hb⟩ := Array.any_eq_true'.1 h
  simp only [Bool.and_eq_true, Bool.or_eq_true, beq_iff_eq] at hb
  exact ⟨ol, ho, e, he, hb⟩
 .cases h
theorem waits_listed {listed : Array Bool} {i : Nat} (hc : Closed md ops listed) : ∀ (n k : Nat), listed.getD k false = true -> waitsB md ops n k i = true -> listed.getD i false = true
 | 0, _, _, h => by cases h
 | n + 1, k, hk, h => by
   obtain ⟨ol, ho, e, he, hb, z⟩ := waits_step h
   have h1 := hc k ol hk ho e he hb
   rcases z with z | z
   .rw [<- z]; exact h1
   .exact waits_listed hc n e.on h1 z
theorem waits_ready {listed : Array Bool} {i l : Nat} (hc : Closed md ops listed) (hl : l ∈ Region.ready md ops listed) : ∀ (n : Nat), waitsB md ops n l i = true -> listed.getD i false = true
 | 0, h => by cases h
 | n + 1, h => by
   obtain ⟨ol, ho, e, he, hb, z⟩ := waits_step h
   obtain ⟨_, o, ho2, hall⟩ := mem_ready.1 hl
   rw [ho] at ho2
   injection ho2 with ho2
   subst ho2
   have h1 := hall e he hb
   rcases z with z | z
   .rw [<- z]; exact h1
   .exact waits_listed hc n e.on h1 z
theorem wpTill.load2 {i n : Nat} {oi : Oper} {v : Value} (hi : ops[i]? = some oi) (hsel : ∀ (j : Nat) (o : Oper) cs b, ops[j]? = some o -> o.op ≠ .select cs b) (hQ : ∀ c a w, Q (.panic c) (a.put oi.dst v) w -> Q (.panic c) a w)
 (hlate : ∀ l ∈ late, waitsB md ops n l i = true) :
 ∀ (f : Nat) (listed : Array Bool) (a : Act) (w : World), Closed md ops listed ->
  (∀ k ok, ops[k]? = some ok -> k ≠ i -> listed.getD k true = false -> (∀ e ∈ ok.after, Region.binds md e = true -> e.on ≠ i) -> oi.apart ops ok = true) ->
  i ∈ Region.ready md ops listed -> Early late listed -> YieldsIf P ops S oi v a -> S w ->
  wpTill P md ops Q S late f (listed.setIfInBounds i true) (a.put oi.dst v) w -> wpTill P md ops Q S late (f + 1) listed a w := by
 have hnl : ∀ listed : Array Bool, Closed md ops listed -> i ∈ Region.ready md ops listed -> ∀ j ∈ Region.ready md ops listed, ¬ j ∈ late := fun listed hc hr j hj hl => by
  have h1 := waits_ready hc hj n (hlate j hl)
  rw [unlisted (mem_ready.1 hr).1] at h1
  cases h1
 intro f
 induction f with
 | zero =>
   intro listed a w hc _ hr _ hy hS H
   refine ⟨fun z => (by rw [z] at hr; cases hr), fun j hj => ?_⟩
   by_cases hji : j = i
   .subst hji; exact hy.wpOp hi hS ⟨fun _ => hS, H⟩
   .have z := ready_mono hj hji
    rw [H.1] at z
    cases z
 | succ f ih =>
   intro listed a w hc hfree hr hE hy hS H
   refine ⟨fun z => (by rw [z] at hr; cases hr), fun j hj => ?_⟩
   by_cases hji : j = i
   .subst hji; exact hy.wpOp hi hS ⟨fun _ => hS, H⟩
   .obtain ⟨hjun, oj, hoj, _⟩ := mem_ready.1 hj
    have h1 := H.2 j (ready_mono hj hji)
    have h2 := wpOp_putIf hoj (hfree j oj hoj hji hjun (waits_no hr hj hoj)) (fun cs b => hsel i oi cs b hi) (fun cs b => hsel j oj cs b hoj) hQ hy h1
    have hjl := hnl listed hc hr j hj
    have hil := hnl listed hc hr i hr
    have hE1 : Early late (listed.setIfInBounds j true) := (early_set hjl).2 hE
    have hE2 : Early late ((listed.setIfInBounds i true).setIfInBounds j true) := (early_set hjl).2 ((early_set hil).2 hE)
    refine wpOp_mono (fun a' w' z => ⟨fun _ => z.2.1 hE2, ih (listed.setIfInBounds j true) a' w' (hc.set hj) (free_set hjun hfree) (ready_mono hr (Ne.symm hji)) hE1 z.1 (z.2.1 hE2) ?_⟩) h2
    rw [Array.setIfInBounds_comm _ _ hji]
    exact z.2.2
def lateB2 (md : Region.Mode) (ops : Array Oper) (late : List Nat) (i : Nat) : Bool := late.all fun l => waitsB md ops 3 l i
theorem till_load {i : Nat} {oi : Oper} {v : Value} {f : Nat} {listed : Array Bool} {a : Act} {w : World} (hi : ops[i]? = some oi) (hs : Region.noSelect ops = true) (hf : Region.free md ops listed i = true) (hr : (Region.ready md ops listed).contains i = true) (hl : lateB2 md ops late i = true) (hc : closedB md ops listed = true) (he : earlyB late listed = true) (hQ : ∀ c a w, Q (.panic c) (a.put oi.dst v) w -> Q (.panic c) a w) (hy : YieldsIf P ops S oi v a) (hS : S w)
 (h : wpTill P md ops Q S late f (listed.setIfInBounds i true) (a.put oi.dst v) w) : wpTill P md ops Q S late (f + 1) listed a w :=
 wpTill.load2 (n := 3) hi (Region.noSelect_spec hs) hQ (fun l z => List.all_eq_true.1 hl l z) f listed a w (closed_of hc) (Region.free_spec hi hf) (by simpa using hr) (early_of he) hy hS h
theorem till_tk {i : Nat} {oi : Oper} {v : Value} {f : Nat} {listed : Array Bool} {a : Act} {w : World} (hi : ops[i]? = some oi) (hy : Yields P ops oi v a) (hS : S w)
 (h : wpTill P md ops Q S late f (listed.setIfInBounds i true) (a.put oi.dst v) w) (hQ : ∀ c a w, Q (.panic c) (a.put oi.dst v) w -> Q (.panic c) a w := by exact fun _ _ _ h => h) (hs : Region.noSelect ops = true := by kernel_rfl) (hf : Region.free md ops listed i = true := by kernel_rfl) (hr : (Region.ready md ops listed).contains i = true := by kernel_rfl) (hil : late.contains i = false := by kernel_rfl) : wpTill P md ops Q S late (f + 1) listed a w := till_take hi hs hf hr hil hQ hy hS h
theorem till_ld {i : Nat} {oi : Oper} {v : Value} {f : Nat} {listed : Array Bool} {a : Act} {w : World} (hi : ops[i]? = some oi) (hy : YieldsIf P ops S oi v a) (hS : S w)
 (h : wpTill P md ops Q S late f (listed.setIfInBounds i true) (a.put oi.dst v) w) (hQ : ∀ c a w, Q (.panic c) (a.put oi.dst v) w -> Q (.panic c) a w := by exact fun _ _ _ h => h) (hs : Region.noSelect ops = true := by kernel_rfl) (hf : Region.free md ops listed i = true := by kernel_rfl) (hr : (Region.ready md ops listed).contains i = true := by kernel_rfl) (hl : lateB2 md ops late i = true := by kernel_rfl) (hc : closedB md ops listed = true := by kernel_rfl) (he : earlyB late listed = true := by kernel_rfl) : wpTill P md ops Q S late (f + 1) listed a w := till_load hi hs hf hr hl hc he hQ hy hS h
theorem tT (i : Nat) {oi : Oper} {v : Value} {f : Nat} {listed : Array Bool} {a : Act} {w : World} (hi : ops.toList[i]? = some oi) (hS : S w)
 (h : wpTill P md ops Q S late f (listed.setIfInBounds i true) (a.put oi.dst v) w) (hy : Yields P ops oi v a := by exact Or.inl ⟨by rfl, by intro w; go_simp; try with_reducible rfl⟩) (hQ : ∀ c a w, Q (.panic c) (a.put oi.dst v) w -> Q (.panic c) a w := by exact fun _ _ _ h => h) (hs : Region.noSelect ops = true := by kernel_rfl) (hf : Region.free md ops listed i = true := by kernel_rfl) (hr : (Region.ready md ops listed).contains i = true := by kernel_rfl) (hil : late.contains i = false := by kernel_rfl) : wpTill P md ops Q S late (f + 1) listed a w := till_take (Array.getElem?_toList.symm.trans hi) hs hf hr hil hQ hy hS h
def TillAll (P : Program) (md : Region.Mode) (ops : Array Oper) (Q : Exit -> Act -> World -> Prop) (S : World -> Prop) (late : List Nat) (f : Nat) (listed : Array Bool) (a : Act) (w : World) (rs : List Nat) : Prop :=
 ∀ i ∈ rs, wpOp P ops Q i (fun a' w' => (Early late (listed.setIfInBounds i true) -> S w') /\ wpTill P md ops Q S late f (listed.setIfInBounds i true) a' w') a w
theorem TillAll.nil {f : Nat} {listed : Array Bool} {a : Act} {w : World} : TillAll P md ops Q S late f listed a w [] := fun _ h => by cases h
theorem TillAll.cons {f : Nat} {listed : Array Bool} {a : Act} {w : World} {i : Nat} {o : Oper} {rs : List Nat} (ho : ops[i]? = some o)
 (h : ∀ K' : Act -> World -> Prop, (∀ a w, S w /\ wpTill P md ops Q S late f (listed.setIfInBounds i true) a w -> K' a w) -> if Region.wanted o (yielded ops a.tmps) = true then Oper.wp P o a w K' Q else K' (a.put o.dst undef) w)
 (hs : TillAll P md ops Q S late f listed a w rs) : TillAll P md ops Q S late f listed a w (i :: rs) := fun j hj => by
 rcases List.mem_cons.1 hj with rfl | hj
 .exact wpOp_step ho (fun K' hK => h K' (fun a w z => hK a w ⟨fun _ => z.1, z.2⟩))
 .exact hs j hj
theorem TillAll.cons2 {f : Nat} {listed : Array Bool} {a : Act} {w : World} {i : Nat} {o : Oper} {rs : List Nat} (ho : ops[i]? = some o) (he : earlyB late (listed.setIfInBounds i true) = false)
 (h : ∀ K' : Act -> World -> Prop, (∀ a w, wpTill P md ops Q S late f (listed.setIfInBounds i true) a w -> K' a w) -> if Region.wanted o (yielded ops a.tmps) = true then Oper.wp P o a w K' Q else K' (a.put o.dst undef) w)
 (hs : TillAll P md ops Q S late f listed a w rs) : TillAll P md ops Q S late f listed a w (i :: rs) := fun j hj => by
 rcases List.mem_cons.1 hj with rfl | hj
 .exact wpOp_step ho (fun K' hK => h K' (fun a w z => hK a w ⟨fun y => absurd y (early_not he), z⟩))
 .exact hs j hj
theorem till_ready {rs : List Nat} {f : Nat} {listed : Array Bool} {a : Act} {w : World} (hr : Region.ready md ops listed = rs) (hne : rs ≠ []) (h : TillAll P md ops Q S late f listed a w rs) : wpTill P md ops Q S late (f + 1) listed a w :=
 ⟨fun h0 => absurd (hr ▸ h0) hne, hr ▸ h⟩
theorem rE (i : Nat) {o : Oper} {f : Nat} {listed : Array Bool} {a : Act} {w : World} (ho : ops.toList[i]? = some o) (h : ∀ K' : Act -> World -> Prop, (∀ a w, S w /\ wpTill P md ops Q S late f (listed.setIfInBounds i true) a w -> K' a w) -> if Region.wanted o (yielded ops a.tmps) = true then Oper.wp P o a w K' Q else K' (a.put o.dst undef) w) (hr : Region.ready md ops listed = [i] := by kernel_rfl) : wpTill P md ops Q S late (f + 1) listed a w := till_ready hr (by simp) (TillAll.cons (Array.getElem?_toList.symm.trans ho) h TillAll.nil)
theorem rL (i : Nat) {o : Oper} {f : Nat} {listed : Array Bool} {a : Act} {w : World} (ho : ops.toList[i]? = some o) (h : ∀ K' : Act -> World -> Prop, (∀ a w, wpTill P md ops Q S late f (listed.setIfInBounds i true) a w -> K' a w) -> if Region.wanted o (yielded ops a.tmps) = true then Oper.wp P o a w K' Q else K' (a.put o.dst undef) w) (hr : Region.ready md ops listed = [i] := by kernel_rfl) (he : earlyB late (listed.setIfInBounds i true) = false := by kernel_rfl) : wpTill P md ops Q S late (f + 1) listed a w := till_ready hr (by simp) (TillAll.cons2 (Array.getElem?_toList.symm.trans ho) he h TillAll.nil)
theorem till_done {listed : Array Bool} {a : Act} {w : World} (hr : Region.ready md ops listed = []) (h : Q .normal a w) : ∀ f, wpTill P md ops Q S late f listed a w
 | 0 => ⟨hr, h⟩
 | _ + 1 => ⟨fun _ => h, by rw [hr]; simp⟩
theorem wp_region_till_drew {id : Nat} {a : Act} {w : World} (hm : P.follows .mixedOrders = true) (hS : S w.drew)
 (h : S w.drew -> wpTill P .any ops Q S late ops.size (Array.replicate ops.size false) a w.drew) : (Code.region id ops true).wp P Q a w :=
 wp_region_any hm (wpTill.any _ _ _ _ (h hS))
end
end Go.Proofs.YtblkgicbimflhaaGreat
namespace Go.Proofs.YtblkgicbimflhaaGreat
open Go.ChangeShapes Go.WideShapes Go.ChangeAt Go.RowKit
set_option linter.unusedVariables false
set_option linter.unusedSimpArgs false
set_option maxRecDepth 100000
set_option maxHeartbeats 16000000
theorem range_below {w w' : World} {n b o : Nat} {cs : List Value} (h : w.rangeAt b o cs) (hb : Below n w w') (hl : b < n) : w'.rangeAt b o cs := fun j v hv => (hb.cell (p := ⟨b, o + j, none⟩) hl).trans (h j v hv)
def set4 (w : World) (g : Nat) (a b c d : Value) : World := (((w.setCell ⟨g, 0, none⟩ a).setCell ⟨g, 1, none⟩ b).setCell ⟨g, 2, none⟩ c).setCell ⟨g, 3, none⟩ d
theorem fr_set4 (w : World) (g : Nat) (a b c d : Value) : Fr (fun q => q = g) w (set4 w g a b c d) := (((Fr.setCell w g 0 a).trans (Fr.setCell _ g 1 b)).trans (Fr.setCell _ g 2 c)).trans (Fr.setCell _ g 3 d)
structure InfM (g mb : Nat) (bg : Int) (rd : List Bool) (M : List (Spt × Vsn)) (w wr : World) (D : List Spt) : Prop where
 it : IT wr (w.heap.size + 1 + 1) mb M D
 bw : Blk wr (w.heap.size + 1) ((marksD D).map Value.bool)
 bz : Blk wr w.heap.size [.int .i64 0, .int .i64 0, .slice none 0 0, .slice none 0 0]
 be : Below w.heap.size w wr
 hd : ∀ k ∈ D, ∃ v, (k, v) ∈ M
theorem info_any (g mb : Nat) (bg cm : Int) (rd : List Bool) (M : List (Spt × Vsn)) (w : World) (hg : g < w.heap.size) (hrl : rd.length = 32) (c0 : w.cell? ⟨g, 0, none⟩ = some (.int .i64 bg)) (hr : w.rangeAt g 2 (rd.map Value.bool)) (c1 : w.cell? ⟨g, 34, none⟩ = some (.map (some mb))) (hM : MP w mb M) (hk : InT M) :
 Calls Tryz.prog 89 #[.pointer (some ⟨g, 0, none⟩), .int .i64 cm] w fun e w' => ∃ v2 v3, e = .returned (.agg #[.int .i64 bg, .int .i64 cm, v2, v3]) /\ IGr w.heap.size w' v2 (tabsT (readAt rd) 32) /\ (∃ D, (∀ m ∈ M, m.1 ∈ D) /\ (∀ k ∈ D, ∃ v, (k, v) ∈ M) /\ IGr w.heap.size w' v3 (tabsT (readAt (marksD D)) 32)) /\ (∀ a, v2.ownBlock = some a -> v3.ownBlock ≠ some a) /\ Below w.heap.size w w' := by
 have hbw : Below w.heap.size w ((w.alloc (.cells #[.int .i64 0, .int .i64 0, .slice none 0 0, .slice none 0 0] 131)).alloc (.cells #[.bool false, .bool false, .bool false, .bool false, .bool false, .bool false, .bool false, .bool false, .bool false, .bool false, .bool false, .bool false, .bool false, .bool false, .bool false, .bool false, .bool false, .bool false, .bool false, .bool false, .bool false, .bool false, .bool false, .bool false, .bool false, .bool false, .bool false, .bool false, .bool false, .bool false, .bool false, .bool false] 115)) := (below_alloc w _).trans ((below_alloc _ _).mono (by simp))
 have hM0 := hM.fr (Fr.of_below (fun _ => False) hbw) (fun z => z)
 obtain ⟨o, hrun, hit⟩ := run_rangeM _ mb M hM0
 have hz : (w.alloc (.cells #[.int .i64 0, .int .i64 0, .slice none 0 0, .slice none 0 0] 131)).heap.size = w.heap.size + 1 := by simp
 have hz2 : ((w.alloc (.cells #[.int .i64 0, .int .i64 0, .slice none 0 0, .slice none 0 0] 131)).alloc (.cells #[.bool false, .bool false, .bool false, .bool false, .bool false, .bool false, .bool false, .bool false, .bool false, .bool false, .bool false, .bool false, .bool false, .bool false, .bool false, .bool false, .bool false, .bool false, .bool false, .bool false, .bool false, .bool false, .bool false, .bool false, .bool false, .bool false, .bool false, .bool false, .bool false, .bool false, .bool false, .bool false] 115)).heap.size = w.heap.size + 1 + 1 := by simp
 have K0 : Blk ((w.alloc (.cells #[.int .i64 0, .int .i64 0, .slice none 0 0, .slice none 0 0] 131)).alloc (.cells #[.bool false, .bool false, .bool false, .bool false, .bool false, .bool false, .bool false, .bool false, .bool false, .bool false, .bool false, .bool false, .bool false, .bool false, .bool false, .bool false, .bool false, .bool false, .bool false, .bool false, .bool false, .bool false, .bool false, .bool false, .bool false, .bool false, .bool false, .bool false, .bool false, .bool false, .bool false, .bool false] 115)) w.heap.size [.int .i64 0, .int .i64 0, .slice none 0 0, .slice none 0 0] := (blk_new w [.int .i64 0, .int .i64 0, .slice none 0 0, .slice none 0 0] 131).below (below_alloc _ _) (by simp)
 have K1 : Blk ((w.alloc (.cells #[.int .i64 0, .int .i64 0, .slice none 0 0, .slice none 0 0] 131)).alloc (.cells #[.bool false, .bool false, .bool false, .bool false, .bool false, .bool false, .bool false, .bool false, .bool false, .bool false, .bool false, .bool false, .bool false, .bool false, .bool false, .bool false, .bool false, .bool false, .bool false, .bool false, .bool false, .bool false, .bool false, .bool false, .bool false, .bool false, .bool false, .bool false, .bool false, .bool false, .bool false, .bool false] 115)) (w.heap.size + 1) ((marksD []).map Value.bool) := by
  have := blk_new (w.alloc (.cells #[.int .i64 0, .int .i64 0, .slice none 0 0, .slice none 0 0] 131)) ((marksD []).map Value.bool) 115
  rw [hz] at this
  exact this
 rw [hz2] at hrun hit
 have HI : Hid (InfM g mb bg rd M w (((w.alloc (.cells #[.int .i64 0, .int .i64 0, .slice none 0 0, .slice none 0 0] 131)).alloc (.cells #[.bool false, .bool false, .bool false, .bool false, .bool false, .bool false, .bool false, .bool false, .bool false, .bool false, .bool false, .bool false, .bool false, .bool false, .bool false, .bool false, .bool false, .bool false, .bool false, .bool false, .bool false, .bool false, .bool false, .bool false, .bool false, .bool false, .bool false, .bool false, .bool false, .bool false, .bool false, .bool false] 115)).alloc o) []) := hid (⟨hit, K1.below (below_alloc _ _) (by rw [hz2]; omega), K0.below (below_alloc _ _) (by rw [hz2]; omega), hbw.trans ((below_alloc _ _).mono (by rw [hz2]; omega)), fun k h => by cases h⟩)
 clear K0 K1 hit hbw hM0
 have HR := hid hr
 have HC0 := hid c0
 clear hr
 go_enter Tryz.func89, Tryz.ntmps89
 go_wp2
 obtain ⟨WA, hWA⟩ : ∃ z, z = (((w.alloc (.cells #[.int .i64 0, .int .i64 0, .slice none 0 0, .slice none 0 0] 131)).alloc (.cells #[.bool false, .bool false, .bool false, .bool false, .bool false, .bool false, .bool false, .bool false, .bool false, .bool false, .bool false, .bool false, .bool false, .bool false, .bool false, .bool false, .bool false, .bool false, .bool false, .bool false, .bool false, .bool false, .bool false, .bool false, .bool false, .bool false, .bool false, .bool false, .bool false, .bool false, .bool false, .bool false] 115)).alloc o) := ⟨_, rfl⟩
 rw [<- hWA] at HI ⊢
 clear hrun hz hz2 hWA
 go_loopw [] (fun wr => ∃ D, Hid (InfM g mb bg rd M w wr D)) (fun wr => wr.rangeLeft mb (w.heap.size + 1 + 1))
 case atStart => exact ⟨[], HI⟩
 case round =>
  clear HI
  obtain ⟨D, HI⟩ := hrel
  have hrl2 := HI.out.it.lt
  have hmb := hM.lt
  rcases HI.out.it.next 0 with ⟨hall, hrun⟩ | ⟨m, w1, hm, hnD, hrun, hit1, hf1, hz1, hlt, hen⟩
  .have HAL : Hid (∀ m ∈ M, m.1 ∈ D) := hall
   have hbe := HI.out.be
   have H3 := hid (HR.out)
   have d0 : wr.cell? ⟨g, 0, none⟩ = some (.int .i64 bg) := ct hbe hg c0
   clear hall hM hk c0 c1
   have HR1 : Hid (wr.drew.rangeAt g 2 (rd.map Value.bool)) := hid (fun j u hu => (hbe.cell (p := ⟨g, 2 + j, none⟩) hg).trans (HR.out j u hu))
   have HR2 : Hid (wr.drew.rangeAt (w.heap.size + 1) 0 ((marksD D).map Value.bool)) := (range_blk HI.out.bw 0 _ (fun j u hu => by rw [Nat.zero_add]; exact hu) : wr.rangeAt (w.heap.size + 1) 0 ((marksD D).map Value.bool))
   obtain ⟨vs, hvs⟩ : ∃ vs, vs = rd.map Value.bool := ⟨_, rfl⟩
   obtain ⟨ms, hms⟩ : ∃ ms, ms = (marksD D).map Value.bool := ⟨_, rfl⟩
   have hcv := fun W => marked_any rd W hrl
   have hcm := fun W => marked_any (marksD D) W (marksD_len D)
   have hvl : (Tryz.prog.info? 115).map (·.size) = some vs.length := by rw [size32, hvs, List.length_map, hrl]
   have hml : (Tryz.prog.info? 115).map (·.size) = some ms.length := by rw [size32, hms, List.length_map, marksD_len]
   rw [<- hvs] at HR1 hcv
   rw [<- hms] at HR2 hcm
   have HCV := hid hcv
   have HCM := hid hcm
   clear hcv hcm hvs hms
   go_wp2
   refine wp_region_till_drew (S := (fun W => W.cell? ⟨g, 0, none⟩ = some (.int .i64 bg) /\ W.rangeAt g 2 vs /\ W.rangeAt (w.heap.size + 1) 0 ms)) (late := [13]) (by kernel_rfl) ⟨by go_keep, HR1.out, HR2.out⟩ (fun hHeld => ?_)
   refine tT 0 rfl hHeld ?_
   try simp only [Act.put, q1, q2, q3]
   refine tT 1 rfl hHeld ?_
   try simp only [Act.put, q1, q2, q3]
   refine tT 2 rfl hHeld ?_
   try simp only [Act.put, q1, q2, q3]
   refine till_ld (i := 3) (v := ?_) rfl (Or.inl ⟨by rfl, ?_⟩) hHeld ?_
   rotate_left
   .intro w hSw
    try dsimp only at hSw
    go_simp
    try with_reducible rfl
   try simp only [Act.put, q1, q2, q3]
   refine tT 4 rfl hHeld ?_
   try simp only [Act.put, q1, q2, q3]
   refine tT 5 rfl hHeld ?_
   try simp only [Act.put, q1, q2, q3]
   refine tT 6 rfl hHeld ?_
   try simp only [Act.put, q1, q2, q3]
   refine tT 7 rfl hHeld ?_
   try simp only [Act.put, q1, q2, q3]
   refine till_load (i := 8) (v := .agg vs.toArray) rfl (by kernel_rfl) (by kernel_rfl) (by kernel_rfl) (by kernel_rfl) (by kernel_rfl) (by kernel_rfl) (fun _ _ _ h => h) (yieldsIf_load_mid (by rfl) 115 (.tmp 26) rfl g 2 (by go_simp) vs _ (fun W h => h.2.1) Tryz.underlying115 rfl hvl) hHeld ?_
   try simp only [Act.put, q1, q2, q3]
   refine till_load (i := 10) (v := .agg ms.toArray) rfl (by kernel_rfl) (by kernel_rfl) (by kernel_rfl) (by kernel_rfl) (by kernel_rfl) (by kernel_rfl) (fun _ _ _ h => h) (yieldsIf_load_mid (by rfl) 115 (.tmp 5) rfl (w.heap.size + 1) 0 (by go_simp) ms _ (fun W h => h.2.2) Tryz.underlying115 rfl hml) hHeld ?_
   try simp only [Act.put, q1, q2, q3]
   have hzr : wr.drew.heap.size = wr.heap.size := rfl
   refine rE 9 rfl fun K hK => ?_
   go_simp
   refine (HCV.out _).mono ?_
   rintro e W2 ⟨v2, rfl, hG2, hb2⟩
   replace hb2 : Below wr.heap.size wr W2 := undrew hb2
   obtain ⟨a2, q2, hf2⟩ := hG2.form
   subst hf2
   have HG2 := hid hG2
   have HB2 := hid hb2
   have l0 : W2.cell? ⟨g, 0, none⟩ = some (.int .i64 bg) := ct hb2 (by show g < _; omega) d0
   clear hG2 hb2
   have y1 : W2.rangeAt g 2 vs := range_below (n := wr.heap.size) (w := wr) HR1.out HB2.out (by omega)
   have y2 : W2.rangeAt (w.heap.size + 1) 0 ms := range_below (n := wr.heap.size) (w := wr) HR2.out HB2.out (by omega)
   have Y1 := hid y1
   have Y2 := hid y2
   clear y1 y2
   refine hK _ _ ⟨⟨l0, Y1.out, Y2.out⟩, ?_⟩
   try simp only [Act.put, q1, q2, q3]
   clear hK K
   have hs2 := HB2.out.size
   refine rE 11 rfl fun K hK => ?_
   go_simp
   refine (HCM.out _).mono ?_
   rintro e W3 ⟨v3, rfl, hG3, hb3⟩
   obtain ⟨a3, q3, hf3⟩ := hG3.form
   subst hf3
   have HG3 := hid hG3
   have HB3 := hid hb3
   have l1 : W3.cell? ⟨g, 0, none⟩ = some (.int .i64 bg) := ct hb3 (by show g < _; omega) l0
   clear hG3 hb3
   refine hK _ _ ⟨⟨l1, range_below (n := W2.heap.size) Y1.out HB3.out (by omega), range_below (n := W2.heap.size) Y2.out HB3.out (by omega)⟩, ?_⟩
   try simp only [Act.put, q1, q2, q3]
   clear hK K
   have hs3 := HB3.out.size
   have KZ := (HI.out.bz.below HB2.out (by omega)).below HB3.out (by omega)
   obtain ⟨⟨r0, s0⟩, ⟨r1, s1⟩, ⟨r2, s2⟩, ⟨r3, s3⟩⟩ := kb3 KZ
   have hlw : w.heap.size < W3.heap.size := by omega
   clear KZ
   refine rE 12 rfl fun K hK => ?_
   go_simp
   refine hK _ _ ⟨⟨l1, range_below (n := W2.heap.size) Y1.out HB3.out (by omega), range_below (n := W2.heap.size) Y2.out HB3.out (by omega)⟩, ?_⟩
   clear hK K
   try simp only [Act.put, q1, q2, q3]
   refine rL 13 rfl fun K hK => ?_
   go_simp
   refine hK _ _ ?_
   clear hK K
   try simp only [Act.put, q1, q2, q3]
   refine till_done (by kernel_rfl) ?_ _
   have G2 : IGr w.heap.size W3 (.slice a2 (tabsT (readAt rd) 32).length q2) (tabsT (readAt rd) 32) := (HG2.out.below HB3.out).base (by rw [hzr]; omega)
   have G3 : IGr w.heap.size W3 (.slice a3 (tabsT (readAt (marksD D)) 32).length q3) (tabsT (readAt (marksD D)) 32) := HG3.out.base (by omega)
   have HF : Hid (∃ v2 v3, Ending.returned (.agg #[.int .i64 bg, .int .i64 cm, .slice a2 (tabsT (readAt rd) 32).length q2, .slice a3 (tabsT (readAt (marksD D)) 32).length q3]) = .returned (.agg #[.int .i64 bg, .int .i64 cm, v2, v3]) /\ IGr w.heap.size (set4 W3 w.heap.size (.int .i64 bg) (.int .i64 cm) (.slice a2 (tabsT (readAt rd) 32).length q2) (.slice a3 (tabsT (readAt (marksD D)) 32).length q3)) v2 (tabsT (readAt rd) 32) /\ (∃ E, (∀ m ∈ M, m.1 ∈ E) /\ (∀ k ∈ E, ∃ v, (k, v) ∈ M) /\ IGr w.heap.size (set4 W3 w.heap.size (.int .i64 bg) (.int .i64 cm) (.slice a2 (tabsT (readAt rd) 32).length q2) (.slice a3 (tabsT (readAt (marksD D)) 32).length q3)) v3 (tabsT (readAt (marksD E)) 32)) /\ (∀ a, v2.ownBlock = some a -> v3.ownBlock ≠ some a) /\ Below w.heap.size w (set4 W3 w.heap.size (.int .i64 bg) (.int .i64 cm) (.slice a2 (tabsT (readAt rd) 32).length q2) (.slice a3 (tabsT (readAt (marksD D)) 32).length q3))) := (by
    have f := fr_set4 W3 w.heap.size (.int .i64 bg) (.int .i64 cm) (.slice a2 (tabsT (readAt rd) 32).length q2) (.slice a3 (tabsT (readAt (marksD D)) 32).length q3)
    have n2 : ∀ q, (Value.slice a2 (tabsT (readAt rd) 32).length q2).ownBlock = some q -> wr.heap.size <= q /\ q < W2.heap.size := fun q hq => HG2.out.lt hq
    have n3 : ∀ q, (Value.slice a3 (tabsT (readAt (marksD D)) 32).length q3).ownBlock = some q -> W2.heap.size <= q := fun q hq => (HG3.out.lt hq).1
    refine ⟨_, _, rfl, own_fr G2 f (fun q hq e => ?_), ⟨D, HAL.out, HI.out.hd, own_fr G3 f (fun q hq e => ?_)⟩, fun q hq hq2 => ?_, ?_⟩
    .have := n2 q hq; have e2 : q = w.heap.size := e; omega
    .have := n3 q hq; have e2 : q = w.heap.size := e; omega
    .have h2 := n2 q hq; have h3 := n3 q hq2; omega
    .exact (HI.out.be.trans ((HB2.out.mono HI.out.be.size).trans (HB3.out.mono (by have := HI.out.be.size; omega)))).trans (f.below (by omega) (fun q e => by rw [e]; exact Nat.le_refl _)))
   unfold set4 at HF
   clear G2 G3
   go_wp2
   refine bodyPost_ret (v := .agg #[.int .i64 bg, .int .i64 cm, .slice a2 (tabsT (readAt rd) 32).length q2, .slice a3 (tabsT (readAt (marksD D)) 32).length q3]) (by simp [results, Tryz.results89, go_sem, r0, r1, r2, r3, s0, s1, s2, s3]) rfl ?_
   exact HF.out
  .obtain ⟨⟨t, y⟩, v, b⟩ := m
   have ht := hk _ hm
   simp only at ht
   obtain ⟨n, rfl⟩ : ∃ n : Nat, t = (n : Int) := ⟨t.toNat, by omega⟩
   have hn : n < 32 := by omega
   have hni : (n : Int) < 32 := by omega
   have HN : Hid (InfM g mb bg rd M w ((w1.alloc (.cells #[.int .i64 (n : Int), .int .i64 y] 113)).setCell ⟨w.heap.size + 1, n, none⟩ (.bool true)) (((n : Int), y) :: D) /\ ((w1.alloc (.cells #[.int .i64 (n : Int), .int .i64 y] 113)).setCell ⟨w.heap.size + 1, n, none⟩ (.bool true)).rangeLeft mb (w.heap.size + 1 + 1) < wr.rangeLeft mb (w.heap.size + 1 + 1)) := hid (by
    have q1 := hit1.fr (Fr.of_below (fun _ => False) (below_alloc w1 (.cells #[.int .i64 (n : Int), .int .i64 y] 113))) (fun z => z) (fun z => z)
    have q2 := q1.1.fr (Fr.setCell (w1.alloc (.cells #[.int .i64 (n : Int), .int .i64 y] 113)) (w.heap.size + 1) n (.bool true)) (fun (e : mb = w.heap.size + 1) => by omega) (fun (e : w.heap.size + 1 + 1 = w.heap.size + 1) => by omega)
    have k1 := ((HI.out.bw.fr hf1 (by omega) (fun (e : w.heap.size + 1 = w.heap.size + 1 + 1) => by omega)).below (below_alloc w1 (.cells #[.int .i64 (n : Int), .int .i64 y] 113)) (by omega)).set n (.bool true) (by rw [List.length_map, marksD_len]; exact hn)
    rw [<- List.map_set, marksD_set D n y hn] at k1
    have k0 := ((HI.out.bz.fr hf1 (by omega) (fun (e : w.heap.size = w.heap.size + 1 + 1) => by omega)).below (below_alloc w1 (.cells #[.int .i64 (n : Int), .int .i64 y] 113)) (by omega)).other (c := w.heap.size + 1) (j := n) (u := .bool true) (by omega)
    refine ⟨⟨q2.1, k1, k0, ?_, fun k hk2 => ?_⟩, by rw [q2.2, q1.2]; exact hlt⟩
    .have b1 : Below w.heap.size w w1 := HI.out.be.trans (hf1.below HI.out.be.size (fun q e => by rw [e]; omega))
     exact (b1.alloc b1.size _).setCell (p := ⟨w.heap.size + 1, n, none⟩) (by simp) _
    .rcases List.mem_cons.1 hk2 with z | z
     .rw [z]; exact ⟨_, hm⟩
     .exact HI.out.hd k z)
   have KB := HI.out.bw.fr hf1 (by omega) (fun (e : w.heap.size + 1 = w.heap.size + 1 + 1) => by omega)
   have c3 : w1.cell? ⟨w.heap.size + 1, n, none⟩ = some (.bool (readAt (marksD D) n)) := (KB n (by rw [List.length_map, marksD_len]; exact hn)).1.trans (by
    rw [List.getElem?_map]
    unfold readAt
    rw [List.getD_eq_getElem?_getD, List.getElem?_eq_getElem (by rw [marksD_len]; exact hn)]
    rfl)
   have f3 := (KB n (by rw [List.length_map, marksD_len]; exact hn)).2
   have hw1 : w.heap.size + 1 < w1.heap.size := by omega
   have c4 : (w1.alloc (.cells #[.int .i64 (n : Int), .int .i64 y] 113)).cell? ⟨w.heap.size + 1, n, none⟩ = some (.bool (readAt (marksD D) n)) := ((below_alloc w1 _).cell (p := ⟨w.heap.size + 1, n, none⟩) hw1).trans c3
   have f4 : (w1.alloc (.cells #[.int .i64 (n : Int), .int .i64 y] 113)).frozen? ⟨w.heap.size + 1, n, none⟩ = false := ((below_alloc w1 _).frozen (p := ⟨w.heap.size + 1, n, none⟩) hw1).trans f3
   have hw2 : ¬ w1.heap.size = w.heap.size + 1 := by omega
   have hw3 : ¬ w.heap.size + 1 = w1.heap.size := by omega
   clear KB HI hit1 hf1 hlt hm hnD hk ht hM c0 c1
   simp only [sptV, vsnV] at hrun hen
   go_wp2
   go_roundw
   case rel => exact ⟨_, hid HN.out.1⟩
   case measure => exact HN.out.2
end Go.Proofs.YtblkgicbimflhaaGreat
