import Derived.Test.YtblkgicbimflhaaGreatSBQ
import Derived.Test.YtblkgicbimflhaaGreatSAT
import Derived.Test.YtblkgicbimflhaaGreatSBH
namespace Go.Proofs.YtblkgicbimflhaaGreat
open Go.ChangeShapes Go.WideShapes Go.ChangeAt Go.RowKit
set_option linter.unusedVariables false
set_option linter.unusedSimpArgs false
set_option maxRecDepth 100000
set_option maxHeartbeats 16000000
theorem flK_len {K : Nat} : ∀ {tv : List (List Value)}, (∀ l ∈ tv, l.length = K) -> tv.flatten.length = tv.length * K
 | [], _ => by simp
 | l :: r, h => by
   rw [List.flatten_cons, List.length_append, flK_len (fun x hx => h x (List.mem_cons_of_mem _ hx)), h l List.mem_cons_self, List.length_cons, Nat.succ_mul]
   omega
theorem flK_get {K : Nat} : ∀ {tv : List (List Value)} {i j : Nat} {l : List Value}, (∀ l ∈ tv, l.length = K) -> tv[i]? = some l -> j < K -> tv.flatten[i * K + j]? = l[j]?
 | [], i, j, l, h, hi, hj => by simp at hi
 | a :: r, 0, j, l, h, hi, hj => by
   have := h a List.mem_cons_self
   simp at hi
   subst hi
   rw [List.flatten_cons, Nat.zero_mul, Nat.zero_add, List.getElem?_append_left (by omega)]
 | a :: r, i + 1, j, l, h, hi, hj => by
   have h1 := h a List.mem_cons_self
   rw [List.flatten_cons, List.getElem?_append_right (by rw [h1, Nat.succ_mul]; omega), h1, show (i + 1) * K + j - K = i * K + j by rw [Nat.succ_mul]; omega]
   exact flK_get (fun x hx => h x (List.mem_cons_of_mem _ hx)) (by simpa using hi) hj
theorem setL_all0 : ∀ (cs xs ys : List Value), xs.length = cs.length -> setL (xs ++ ys) 0 cs = cs ++ ys := by
 have key : ∀ (cs xs ys pre : List Value), xs.length = cs.length -> setL (pre ++ (xs ++ ys)) pre.length cs = pre ++ (cs ++ ys) := by
  intro cs
  induction cs with
  | nil => intro xs ys pre h; have : xs = [] := List.length_eq_zero_iff.1 h; subst this; rfl
  | cons c r ih =>
    intro xs ys pre h
    cases xs with
    | nil => cases h
    | cons x xs =>
      unfold setL
      rw [List.set_append_right _ _ (Nat.le_refl _), Nat.sub_self, List.cons_append, List.set_cons_zero]
      have := ih xs ys (pre ++ [c]) (by simpa using h)
      rw [List.length_append] at this
      simpa using this
 intro cs xs ys h
 simpa using key cs xs ys [] h
theorem flK_set {K : Nat} : ∀ {tv : List (List Value)} {i : Nat} {cs : List Value}, (∀ l ∈ tv, l.length = K) -> i < tv.length -> cs.length = K -> setL tv.flatten (i * K) cs = (tv.set i cs).flatten
 | [], _, _, _, hi, _ => by cases hi
 | a :: r, 0, cs, h, _, hc => by
   have h1 := h a List.mem_cons_self
   rw [List.flatten_cons, Nat.zero_mul, List.set_cons_zero, List.flatten_cons]
   exact setL_all0 cs a r.flatten (by omega)
 | a :: r, i + 1, cs, h, hi, hc => by
   have h1 := h a List.mem_cons_self
   rw [List.flatten_cons, List.set_cons_succ, List.flatten_cons, <- flK_set (fun x hx => h x (List.mem_cons_of_mem _ hx)) (by simpa using hi) hc]
   have key : ∀ (cs ys : List Value) (o : Nat), setL (a ++ ys) (a.length + o) cs = a ++ setL ys o cs := by
    intro cs
    induction cs with
    | nil => intro ys o; rfl
    | cons c r ih =>
      intro ys o
      unfold setL
      rw [List.set_append_right _ _ (by omega), show a.length + o - a.length = o by omega, show a.length + o + 1 = a.length + (o + 1) by omega]
      exact ih (ys.set o c) (o + 1)
   rw [show (i + 1) * K = a.length + i * K by rw [Nat.succ_mul]; omega]
   exact key cs r.flatten (i * K)
theorem blk_setW {g : Nat} : ∀ (cs xs : List Value) (o : Nat) (w : World), Blk w g xs -> o + cs.length <= xs.length -> Blk (setW w g o cs) g (setL xs o cs)
 | [], _, _, _, h, _ => h
 | c :: cs, xs, o, w, h, hl => by
   unfold setW setL
   rw [List.length_cons] at hl
   exact blk_setW cs _ _ _ (h.set o c (by omega)) (by rw [List.length_set]; omega)
theorem fr_setW (g : Nat) : ∀ (cs : List Value) (o : Nat) (w : World), Fr (fun q => q = g) w (setW w g o cs)
 | [], _, w => Fr.refl _ w
 | c :: cs, o, w => (Fr.setCell w g o c).trans (fr_setW g cs (o + 1) _)
theorem tag_fr {S : Nat -> Prop} {w w' : World} {g ty : Nat} (h : tag w g ty) (hf : Fr S w w') (hg : ¬ S g) : tag w' g ty := by
 have hl := tag_lt h
 obtain ⟨c, f, e⟩ := h
 exact ⟨c, f, by rw [hf.block g hl hg]; exact e⟩
theorem tag_setW {g q ty : Nat} : ∀ (cs : List Value) (o : Nat) (w : World), tag w q ty -> tag (setW w g o cs) q ty
 | [], _, _, h => h
 | c :: cs, o, w, h => tag_setW cs _ _ (tag_set _ h)
theorem TL.fr {α : Type} {ty k : Nat} {C : Nat -> World -> List Value -> α -> Prop} {S : Nat -> Prop} {w w' : World} {v : Value} {xs : List α} (h : TL ty k C w v xs) (hf : Fr S w w') (hS : ∀ g, S g -> ¬ tag w g ty) (hC : ∀ {cs x}, C 0 w cs x -> C 0 w' cs x) : TL ty k C w' v xs := by
 obtain ⟨⟨a, c, he, hh⟩, ht⟩ := h
 refine ⟨⟨a, c, he, fun hp => ?_⟩, fun g o n c' hv hp => ?_⟩
 .obtain ⟨g, o, e2, h1, h2, h3⟩ := hh hp
  have htg := ht g o _ _ (by rw [he, e2]) hp
  have hb := hf.block g h2 (fun z => hS g z htg)
  refine ⟨g, o, e2, h1, Nat.lt_of_lt_of_le h2 hf.size, fun i hi2 => ?_⟩
  obtain ⟨cs, x, y⟩ := h3 i hi2
  exact ⟨cs, hC x, fun j hj => by rw [<- y j hj]; exact World.cell?_of_block hb⟩
 .have htg := ht g o n c' hv hp
  exact tag_fr htg hf (fun z => hS g z htg)
def snV (n : Sn) (v : Value × Value × Value) : List Value := [.bool n.op, .bool n.un, .int .i64 n.bg, .int .i64 n.cm, v.1, v.2.1, v.2.2]
structure SnM (B : Nat) (W0 w : World) (n : Sn) (v : Value × Value × Value) : Prop where
 ks : TL 48 2 CPr w v.1 n.ks
 td : n.td.length = 32 -> ∃ g, v.2.1 = .slice (some ⟨g, 0, none⟩) 32 32 /\ B <= g /\ tag w g 4 /\ Blk w g (n.td.map Value.bool)
 tf : (∃ a m c, v.2.1 = .slice a m c) /\ ∀ g, v.2.1.ownBlock = some g -> g < w.heap.size
 ls : n.ls.length = 32 -> ∃ g pv, v.2.2 = .slice (some ⟨g, 0, none⟩) 32 32 /\ B <= g /\ tag w g 36 /\ Blk w g pv /\ pv.length = 32 /\ ∀ k : Nat, k < 32 -> RS 2 CPr 0 W0 (pv.getD k (.slice none 0 0)) (n.ls.getD k [])
 lf : (∃ a m c, v.2.2 = .slice a m c) /\ ∀ g, v.2.2.ownBlock = some g -> g < w.heap.size
theorem SnM.fr {S : Nat -> Prop} {B : Nat} {W0 w w' : World} {n : Sn} {v : Value × Value × Value} (h : SnM B W0 w n v) (hf : Fr S w w') (hk : ∀ g, S g -> ¬ tag w g 48) (h1 : ∀ g, S g -> tag w g 4 -> v.2.1.ownBlock ≠ some g) (h2 : ∀ g, S g -> tag w g 36 -> v.2.2.ownBlock ≠ some g) : SnM B W0 w' n v := by
 refine ⟨h.ks.fr hf hk (fun h => h), fun hl => ?_, ⟨h.tf.1, fun g hg => Nat.lt_of_lt_of_le (h.tf.2 g hg) hf.size⟩, fun hl => ?_, ⟨h.lf.1, fun g hg => Nat.lt_of_lt_of_le (h.lf.2 g hg) hf.size⟩⟩
 .obtain ⟨g, e, hB, ht, hb⟩ := h.td hl
  have hn : ¬ S g := fun z => h1 g z ht (by rw [e]; rfl)
  exact ⟨g, e, hB, tag_fr ht hf hn, hb.fr hf (tag_lt ht) hn⟩
 .obtain ⟨g, pv, e, hB, ht, hb, hp⟩ := h.ls hl
  have hn : ¬ S g := fun z => h2 g z ht (by rw [e]; rfl)
  exact ⟨g, pv, e, hB, tag_fr ht hf hn, hb.fr hf (tag_lt ht) hn, hp⟩
theorem SnM.below {B : Nat} {W0 w w' : World} {n : Sn} {v : Value × Value × Value} (h : SnM B W0 w n v) (hb : Below w.heap.size w w') : SnM B W0 w' n v := h.fr (Fr.of_below (fun _ => False) hb) (fun _ z => z.elim) (fun _ z => z.elim) (fun _ z => z.elim)
theorem snm0 (B : Nat) (W0 w : World) : SnM B W0 w sn0 (.slice none 0 0, .slice none 0 0, .slice none 0 0) := ⟨TL.nil _ _ _ _, fun h => by simp [sn0] at h, ⟨⟨_, _, _, rfl⟩, fun g h => by simp [Value.ownBlock] at h⟩, fun h => by simp [sn0] at h, ⟨⟨_, _, _, rfl⟩, fun g h => by simp [Value.ownBlock] at h⟩⟩
structure LM (B : Nat) (W0 w : World) (gn : Nat) (nw : List Sn) (vs : List (Value × Value × Value)) : Prop where
 n : nw.length = 5
 m : vs.length = 5
 xs : Blk w gn (List.zipWith snV nw vs).flatten
 gt : tag w gn 47
 gB : B <= gn
 sm : ∀ (i : Nat) u q, nw[i]? = some u -> vs[i]? = some q -> SnM B W0 w u q
 dt : ∀ (i j : Nat) q r, vs[i]? = some q -> vs[j]? = some r -> i ≠ j -> ∀ g, q.2.1.ownBlock = some g -> r.2.1.ownBlock ≠ some g
 dl : ∀ (i j : Nat) q r, vs[i]? = some q -> vs[j]? = some r -> i ≠ j -> ∀ g, q.2.2.ownBlock = some g -> r.2.2.ownBlock ≠ some g
theorem LM.below {B : Nat} {W0 w w' : World} {gn : Nat} {nw : List Sn} {vs : List (Value × Value × Value)} (h : LM B W0 w gn nw vs) (hb : Below w.heap.size w w') : LM B W0 w' gn nw vs :=
 ⟨h.n, h.m, h.xs.below hb (tag_lt h.gt), tag_below h.gt hb, h.gB, fun i u q hu hq => (h.sm i u q hu hq).below hb, h.dt, h.dl⟩
theorem LM.all7 {nw : List Sn} {vs : List (Value × Value × Value)} : ∀ l ∈ List.zipWith snV nw vs, l.length = 7 := fun l hl => by
 obtain ⟨i, h, rfl⟩ := List.getElem_of_mem hl
 rw [List.getElem_zipWith]
 rfl
theorem LM.at {B : Nat} {W0 w : World} {gn : Nat} {nw : List Sn} {vs : List (Value × Value × Value)} (h : LM B W0 w gn nw vs) {s : Nat} (hs : s < 5) : ∃ u q, nw[s]? = some u /\ vs[s]? = some q /\ SnM B W0 w u q /\ ∀ j, j < 7 -> w.cell? ⟨gn, s * 7 + j, none⟩ = (snV u q)[j]? /\ w.frozen? ⟨gn, s * 7 + j, none⟩ = false := by
 have h1 : s < nw.length := by rw [h.n]; exact hs
 have h2 : s < vs.length := by rw [h.m]; exact hs
 refine ⟨nw[s], vs[s], List.getElem?_eq_getElem h1, List.getElem?_eq_getElem h2, h.sm s _ _ (List.getElem?_eq_getElem h1) (List.getElem?_eq_getElem h2), fun j hj => ?_⟩
 have hz : (List.zipWith snV nw vs)[s]? = some (snV nw[s] vs[s]) := by
  rw [List.getElem?_eq_getElem (by rw [List.length_zipWith, h.n, h.m]; exact hs), List.getElem_zipWith]
 have hl : s * 7 + j < (List.zipWith snV nw vs).flatten.length := by rw [flK_len LM.all7, List.length_zipWith, h.n, h.m]; simp; omega
 have := h.xs _ hl
 rw [flK_get LM.all7 hz hj] at this
 exact this
structure LR (B : Nat) (W0 w : World) (gn : Nat) (nw : List Sn) (vs : List (Value × Value × Value)) (s : Nat) (n : Sn) (v : Value × Value × Value) : Prop where
 n5 : nw.length = 5
 m5 : vs.length = 5
 xs : Blk w gn (List.zipWith snV nw vs).flatten
 gt : tag w gn 47
 gB : B <= gn
 sm : ∀ (i : Nat) u q, i ≠ s -> nw[i]? = some u -> vs[i]? = some q -> SnM B W0 w u q
 me : SnM B W0 w n v
 dt : ∀ (i j : Nat) q r, i ≠ s -> j ≠ s -> vs[i]? = some q -> vs[j]? = some r -> i ≠ j -> ∀ g, q.2.1.ownBlock = some g -> r.2.1.ownBlock ≠ some g
 dl : ∀ (i j : Nat) q r, i ≠ s -> j ≠ s -> vs[i]? = some q -> vs[j]? = some r -> i ≠ j -> ∀ g, q.2.2.ownBlock = some g -> r.2.2.ownBlock ≠ some g
 et : ∀ (i : Nat) q, i ≠ s -> vs[i]? = some q -> ∀ g, v.2.1.ownBlock = some g -> q.2.1.ownBlock ≠ some g
 el : ∀ (i : Nat) q, i ≠ s -> vs[i]? = some q -> ∀ g, v.2.2.ownBlock = some g -> q.2.2.ownBlock ≠ some g
structure LQ (B : Nat) (W0 w : World) (gn : Nat) (nw : List Sn) (vs : List (Value × Value × Value)) (s : Nat) (n : Sn) (v : Value × Value × Value) (bx : Nat) : Prop extends LR B W0 w gn nw vs s n v where
 bk : Blk w bx (snV n v)
 bt : tag w bx 47
 bn : bx ≠ gn
theorem LM.box {B : Nat} {W0 w : World} {gn : Nat} {nw : List Sn} {vs : List (Value × Value × Value)} (h : LM B W0 w gn nw vs) {s : Nat} {u : Sn} {q : Value × Value × Value} (hu : nw[s]? = some u) (hq : vs[s]? = some q) {bx : Nat} (hb : Blk w bx (snV u q)) (ht : tag w bx 47) (hn : bx ≠ gn) : LQ B W0 w gn nw vs s u q bx :=
 ⟨⟨h.n, h.m, h.xs, h.gt, h.gB, fun i u q _ => h.sm i u q, h.sm s u q hu hq, fun i j q r _ _ => h.dt i j q r, fun i j q r _ _ => h.dl i j q r, fun i r hi hr => h.dt s i q r hq hr (fun e => hi e.symm), fun i r hi hr => h.dl s i q r hq hr (fun e => hi e.symm)⟩, hb, ht, hn⟩
theorem LQ.below {B : Nat} {W0 w w' : World} {gn : Nat} {nw : List Sn} {vs : List (Value × Value × Value)} {s : Nat} {n : Sn} {v : Value × Value × Value} {bx : Nat} (h : LQ B W0 w gn nw vs s n v bx) (hb : Below w.heap.size w w') : LQ B W0 w' gn nw vs s n v bx :=
 ⟨⟨h.n5, h.m5, h.xs.below hb (tag_lt h.gt), tag_below h.gt hb, h.gB, fun i u q hi hu hq => (h.sm i u q hi hu hq).below hb, h.me.below hb, h.dt, h.dl, h.et, h.el⟩, h.bk.below hb (tag_lt h.bt), tag_below h.bt hb, h.bn⟩
theorem LQ.fr {S : Nat -> Prop} {B : Nat} {W0 w w' : World} {gn : Nat} {nw : List Sn} {vs : List (Value × Value × Value)} {s : Nat} {n : Sn} {v : Value × Value × Value} {bx : Nat} (h : LQ B W0 w gn nw vs s n v bx) (hf : Fr S w w') (hS : ∀ g, S g -> tag w g 47) (h1 : ¬ S gn) (h2 : ¬ S bx) : LQ B W0 w' gn nw vs s n v bx := by
 have k : ∀ {ty g : Nat}, ty ≠ 47 -> S g -> ¬ tag w g ty := fun hne hg ht => tag_ne ht (hS _ hg) hne rfl
 have hm : ∀ {u q}, SnM B W0 w u q -> SnM B W0 w' u q := fun z => z.fr hf (fun g hg => k (by decide) hg) (fun g hg ht => (k (by decide) hg ht).elim) (fun g hg ht => (k (by decide) hg ht).elim)
 exact ⟨⟨h.n5, h.m5, h.xs.fr hf (tag_lt h.gt) h1, tag_fr h.gt hf h1, h.gB, fun i u q hi hu hq => hm (h.sm i u q hi hu hq), hm h.me, h.dt, h.dl, h.et, h.el⟩, h.bk.fr hf (tag_lt h.bt) h2, tag_fr h.bt hf h2, h.bn⟩
theorem LQ.put {B : Nat} {W0 w w' : World} {gn : Nat} {nw : List Sn} {vs : List (Value × Value × Value)} {s : Nat} {n n' : Sn} {v v' : Value × Value × Value} {bx : Nat} (h : LQ B W0 w gn nw vs s n v bx) (hf : Fr (fun g => g = bx) w w') (hb : Blk w' bx (snV n' v')) (ht : tag w' bx 47) (hm : SnM B W0 w n' v') (he : ∀ (i : Nat) q, i ≠ s -> vs[i]? = some q -> ∀ g, v'.2.1.ownBlock = some g -> q.2.1.ownBlock ≠ some g) (hl : ∀ (i : Nat) q, i ≠ s -> vs[i]? = some q -> ∀ g, v'.2.2.ownBlock = some g -> q.2.2.ownBlock ≠ some g) : LQ B W0 w' gn nw vs s n' v' bx := by
 have k : ∀ {ty g : Nat}, ty ≠ 47 -> g = bx -> ¬ tag w g ty := fun hne hg ht => tag_ne ht (hg ▸ h.bt) hne rfl
 have hmm : ∀ {u q}, SnM B W0 w u q -> SnM B W0 w' u q := fun z => z.fr hf (fun g hg => k (by decide) hg) (fun g hg ht => (k (by decide) hg ht).elim) (fun g hg ht => (k (by decide) hg ht).elim)
 exact ⟨⟨h.n5, h.m5, h.xs.fr hf (tag_lt h.gt) (fun e => h.bn e.symm), tag_fr h.gt hf (fun e => h.bn e.symm), h.gB, fun i u q hi hu hq => hmm (h.sm i u q hi hu hq), hmm hm, h.dt, h.dl, he, hl⟩, hb, ht, h.bn⟩
theorem LQ.told {B : Nat} {W0 w : World} {gn : Nat} {nw : List Sn} {vs : List (Value × Value × Value)} {s : Nat} {n : Sn} {v : Value × Value × Value} {bx : Nat} (h : LQ B W0 w gn nw vs s n v bx) {g : Nat} (hv : v.2.1 = .slice (some ⟨g, 0, none⟩) 32 32) (h32 : n.td.length = 32) {k : Nat} (hk : k < 32) (b : Bool) : LQ B W0 (w.setCell ⟨g, k, none⟩ (.bool b)) gn nw vs s { n with td := n.td.set k b } v bx := by
 obtain ⟨g', e, hB, ht, hbk⟩ := h.me.td h32
 rw [hv] at e
 cases e
 have hf := Fr.setCell w g k (.bool b)
 have kk : ∀ {ty q : Nat}, ty ≠ 4 -> q = g -> ¬ tag w q ty := fun hne hg hq => tag_ne hq (hg ▸ ht) hne rfl
 have hng : gn ≠ g := tag_ne h.gt ht (by decide)
 have hnb : bx ≠ g := tag_ne h.bt ht (by decide)
 refine ⟨⟨h.n5, h.m5, h.xs.fr hf (tag_lt h.gt) hng, tag_fr h.gt hf hng, h.gB, fun i u q hi hu hq => (h.sm i u q hi hu hq).fr hf (fun g hg => kk (by decide) hg) (fun g' hg' _ => by subst hg'; exact h.et i q hi hq g' (by rw [hv]; rfl)) (fun g hg ht => (kk (by decide) hg ht).elim), ?_, h.dt, h.dl, h.et, h.el⟩, h.bk.fr hf (tag_lt h.bt) hnb, tag_fr h.bt hf hnb, h.bn⟩
 refine ⟨h.me.ks.fr hf (fun g hg => kk (by decide) hg) (fun h => h), fun _ => ⟨g, hv, hB, tag_set _ ht, ?_⟩, ⟨h.me.tf.1, fun q hq => by simpa using h.me.tf.2 q hq⟩, fun hl => ?_, ⟨h.me.lf.1, fun q hq => by simpa using h.me.lf.2 q hq⟩⟩
 .have := hbk.set k (.bool b) (by simpa using by omega)
  rwa [<- List.map_set] at this
 .obtain ⟨gl, pv, e, hB2, ht2, hb2, hp⟩ := h.me.ls hl
  have hne : ¬ gl = g := tag_ne ht2 ht (by decide)
  exact ⟨gl, pv, e, hB2, tag_fr ht2 hf hne, hb2.fr hf (tag_lt ht2) hne, hp⟩
theorem LQ.list {B : Nat} {W0 w : World} {gn : Nat} {nw : List Sn} {vs : List (Value × Value × Value)} {s : Nat} {n : Sn} {v : Value × Value × Value} {bx : Nat} (h : LQ B W0 w gn nw vs s n v bx) {g : Nat} (hv : v.2.2 = .slice (some ⟨g, 0, none⟩) 32 32) (h32 : n.ls.length = 32) {k : Nat} (hk : k < 32) {pw : Value} {ps : List (Int × Int)} (hp : RS 2 CPr 0 W0 pw ps) : LQ B W0 (w.setCell ⟨g, k, none⟩ pw) gn nw vs s { n with ls := n.ls.set k ps } v bx := by
 obtain ⟨g', pv, e, hB, ht, hbk, hpl, hps⟩ := h.me.ls h32
 rw [hv] at e
 cases e
 have hf := Fr.setCell w g k pw
 have kk : ∀ {ty q : Nat}, ty ≠ 36 -> q = g -> ¬ tag w q ty := fun hne hg hq => tag_ne hq (hg ▸ ht) hne rfl
 have hng : gn ≠ g := tag_ne h.gt ht (by decide)
 have hnb : bx ≠ g := tag_ne h.bt ht (by decide)
 refine ⟨⟨h.n5, h.m5, h.xs.fr hf (tag_lt h.gt) hng, tag_fr h.gt hf hng, h.gB, fun i u q hi hu hq => (h.sm i u q hi hu hq).fr hf (fun g hg => kk (by decide) hg) (fun g hg ht => (kk (by decide) hg ht).elim) (fun g' hg' _ => by subst hg'; exact h.el i q hi hq g' (by rw [hv]; rfl)), ?_, h.dt, h.dl, h.et, h.el⟩, h.bk.fr hf (tag_lt h.bt) hnb, tag_fr h.bt hf hnb, h.bn⟩
 refine ⟨h.me.ks.fr hf (fun g hg => kk (by decide) hg) (fun h => h), fun hl => ?_, ⟨h.me.tf.1, fun q hq => by simpa using h.me.tf.2 q hq⟩, fun _ => ⟨g, pv.set k pw, hv, hB, tag_set _ ht, hbk.set k pw (by omega), by simpa using hpl, fun j hj => ?_⟩, ⟨h.me.lf.1, fun q hq => by simpa using h.me.lf.2 q hq⟩⟩
 .obtain ⟨gl, e, hB2, ht2, hb2⟩ := h.me.td hl
  have hne : ¬ gl = g := tag_ne ht2 ht (by decide)
  exact ⟨gl, e, hB2, tag_fr ht2 hf hne, hb2.fr hf (tag_lt ht2) hne⟩
 .simp only
  rw [getD_stN _ _ _ _ _ (by omega), getD_stN _ _ _ _ _ (by omega)]
  by_cases e : k = j
  .rw [if_pos e, if_pos e]; exact hp
  .rw [if_neg e, if_neg e]; exact hps j hj
theorem LR.done {B : Nat} {W0 w : World} {gn : Nat} {nw : List Sn} {vs : List (Value × Value × Value)} {s : Nat} {n : Sn} {v : Value × Value × Value} (h : LR B W0 w gn nw vs s n v) (hs : s < 5) : LM B W0 (setW w gn (s * 7) (snV n v)) gn (nw.set s n) (vs.set s v) := by
 have hf := fr_setW gn (snV n v) (s * 7) w
 have hn5 := h.n5
 have hm5 := h.m5
 have k : ∀ {ty g : Nat}, ty ≠ 47 -> g = gn -> ¬ tag w g ty := fun hne hg ht => tag_ne ht (hg ▸ h.gt) hne rfl
 have hm : ∀ {u q}, SnM B W0 w u q -> SnM B W0 (setW w gn (s * 7) (snV n v)) u q := fun z => z.fr hf (fun g hg => k (by decide) hg) (fun g hg ht => (k (by decide) hg ht).elim) (fun g hg ht => (k (by decide) hg ht).elim)
 have hz : List.zipWith snV (nw.set s n) (vs.set s v) = (List.zipWith snV nw vs).set s (snV n v) := by
  apply List.ext_getElem?
  intro i
  rw [List.getElem?_zipWith]
  by_cases e : s = i
  .subst e
   rw [List.getElem?_set_self (by omega), List.getElem?_set_self (by omega), List.getElem?_set_self (by rw [List.length_zipWith]; omega)]
  .rw [List.getElem?_set_ne e, List.getElem?_set_ne e, List.getElem?_set_ne e, List.getElem?_zipWith]
 have hlz : (List.zipWith snV nw vs).flatten.length = 35 := by rw [flK_len LM.all7, List.length_zipWith, hn5, hm5]; rfl
 have pick : ∀ {α : Type} {l : List α} {a x : α} {i : Nat}, (l.set s a)[i]? = some x -> (i = s /\ x = a) \/ (i ≠ s /\ l[i]? = some x) := by
  intro α l a x i hx
  by_cases e : s = i
  .subst e
   rw [List.getElem?_set_self'] at hx
   cases hq : l[s]? with
   | none => rw [hq] at hx; cases hx
   | some z => rw [hq] at hx; simp at hx; exact .inl ⟨rfl, hx.symm⟩
  .rw [List.getElem?_set_ne e] at hx
   exact .inr ⟨fun z => e z.symm, hx⟩
 refine ⟨by simpa using hn5, by simpa using hm5, ?_, tag_setW _ _ _ h.gt, h.gB, fun i u q hu hq => ?_, fun i j q r hq hr hij => ?_, fun i j q r hq hr hij => ?_⟩
 .rw [hz, <- flK_set LM.all7 (by rw [List.length_zipWith]; omega) rfl]
  exact blk_setW _ _ _ _ h.xs (by rw [hlz]; show s * 7 + 7 <= 35; omega)
 .rcases pick hu with ⟨e1, rfl⟩ | ⟨e1, hu⟩
  .rcases pick hq with ⟨_, rfl⟩ | ⟨e2, _⟩
   .exact hm h.me
   .exact absurd e1 e2
  .rcases pick hq with ⟨e2, _⟩ | ⟨_, hq⟩
   .exact absurd e2 e1
   .exact hm (h.sm i u q e1 hu hq)
 .rcases pick hq with ⟨e1, rfl⟩ | ⟨e1, hq2⟩
  .rcases pick hr with ⟨e2, rfl⟩ | ⟨e2, hr⟩
   .exact absurd (e1.trans e2.symm) hij
   .exact h.et j r e2 hr
  .rcases pick hr with ⟨e2, rfl⟩ | ⟨e2, hr⟩
   .exact fun g hg hg2 => h.et i q e1 hq2 g hg2 hg
   .exact h.dt i j q r e1 e2 hq2 hr hij
 .rcases pick hq with ⟨e1, rfl⟩ | ⟨e1, hq2⟩
  .rcases pick hr with ⟨e2, rfl⟩ | ⟨e2, hr⟩
   .exact absurd (e1.trans e2.symm) hij
   .exact h.el j r e2 hr
  .rcases pick hr with ⟨e2, rfl⟩ | ⟨e2, hr⟩
   .exact fun g hg hg2 => h.el i q e1 hq2 g hg2 hg
   .exact h.dl i j q r e1 e2 hq2 hr hij
theorem LR.cells {B : Nat} {W0 w : World} {gn : Nat} {nw : List Sn} {vs : List (Value × Value × Value)} {s : Nat} {n : Sn} {v : Value × Value × Value} (h : LR B W0 w gn nw vs s n v) (hs : s < 5) : (∀ j, j < 7 -> ∃ z, w.cell? ⟨gn, s * 7 + j, none⟩ = some z) /\ (∀ j, j < 7 -> w.frozen? ⟨gn, s * 7 + j, none⟩ = false) := by
 have hl : ∀ j, j < 7 -> s * 7 + j < (List.zipWith snV nw vs).flatten.length := fun j hj => by rw [flK_len LM.all7, List.length_zipWith, h.n5, h.m5]; simp; omega
 exact ⟨fun j hj => ⟨_, (h.xs _ (hl j hj)).1.trans (List.getElem?_eq_getElem (hl j hj))⟩, fun j hj => (h.xs _ (hl j hj)).2⟩
def v30 : Value × Value × Value := (.slice none 0 0, .slice none 0 0, .slice none 0 0)
theorem LM.none {B : Nat} {W0 w : World} {gn : Nat} {nw : List Sn} {vs : List (Value × Value × Value)} (h : LM B W0 w gn nw vs) (s : Nat) : LR B W0 w gn nw vs s sn0 v30 :=
 ⟨h.n, h.m, h.xs, h.gt, h.gB, fun i u q _ => h.sm i u q, snm0 _ _ _, fun i j q r _ _ => h.dt i j q r, fun i j q r _ _ => h.dl i j q r, fun i r hi hr g hg => by simp [v30, Value.ownBlock] at hg, fun i r hi hr g hg => by simp [v30, Value.ownBlock] at hg⟩
structure PM (B : Nat) (w : World) (pv : Value) (ps : List (Sn × (Value × Value × Value))) : Prop where
 row : w.ownsRow B 47 7 pv ps.length (ps.flatMap (fun p => snV p.1 p.2))
 ks : ∀ p ∈ ps, TL 48 2 CPr w p.2.1 p.1.ks
 fm : ∀ p ∈ ps, ∃ a m c a2 m2 c2, p.2.2 = (.slice a m c, .slice a2 m2 c2)
theorem PM.fr {S : Nat -> Prop} {B : Nat} {w w' : World} {pv : Value} {ps : List (Sn × (Value × Value × Value))} (h : PM B w pv ps) (hf : Fr S w w') (hk : ∀ g, S g -> ¬ tag w g 48) (hp : ∀ g, pv.ownBlock = some g -> ¬ S g) : PM B w' pv ps := ⟨own_fr h.row hf hp, fun p hq => (h.ks p hq).fr hf hk (fun h => h), h.fm⟩
theorem PM.below {B : Nat} {w w' : World} {pv : Value} {ps : List (Sn × (Value × Value × Value))} (h : PM B w pv ps) (hb : Below w.heap.size w w') : PM B w' pv ps := h.fr (Fr.of_below (fun _ => False) hb) (fun _ z => z.elim) (fun _ _ z => z.elim)
theorem PM.push {B : Nat} {w w' : World} {pv pv' : Value} {ps : List (Sn × (Value × Value × Value))} {n : Sn} {v : Value × Value × Value} (h : PM B w pv ps) (hg : w.grownBy w' pv.ownBlock) (ho : w'.ownsRow B 47 7 pv' (ps.length + 1) (ps.flatMap (fun p => snV p.1 p.2) ++ snV n v)) (hk : TL 48 2 CPr w v.1 n.ks) (hfm : ∃ a m c a2 m2 c2, v.2 = (.slice a m c, .slice a2 m2 c2)) : PM B w' pv' (ps ++ [(n, v)]) := by
 have hf := Fr.grown hg
 have hkk : ∀ g, pv.ownBlock = some g -> ¬ tag w g 48 := fun g hg ht => tag_ne ht (own_tag h.row hg) (by decide) rfl
 refine ⟨by rw [List.length_append, List.flatMap_append]; simpa using ho, fun p hp => ?_, fun p hp => ?_⟩
 .rcases List.mem_append.1 hp with z | z
  .exact (h.ks p z).fr hf hkk (fun h => h)
  .rw [List.mem_singleton] at z
   subst z
   exact hk.fr hf hkk (fun h => h)
 .rcases List.mem_append.1 hp with z | z
  .exact h.fm p z
  .rw [List.mem_singleton] at z
   subst z
   exact hfm
theorem PM.at {B : Nat} {w : World} {pg n c : Nat} {ps : List (Sn × (Value × Value × Value))} {i : Nat} {p : Sn × (Value × Value × Value)} (h : PM B w (.slice (some ⟨pg, 0, none⟩) n c) ps) (hn : n = ps.length) (hp : ps[i]? = some p) : ∀ j, j < 7 -> w.cell? ⟨pg, i * 7 + j, none⟩ = (snV p.1 p.2)[j]? := fun j hj => by
 subst hn
 have hz : (ps.map (fun p => snV p.1 p.2))[i]? = some (snV p.1 p.2) := by rw [List.getElem?_map, hp]; rfl
 have hfl := flK_get (K := 7) (tv := ps.map (fun p => snV p.1 p.2)) (fun l hl => by obtain ⟨o, _, rfl⟩ := List.mem_map.1 hl; rfl) hz hj
 rw [<- List.flatMap_def] at hfl
 have hx : (snV p.1 p.2)[j]? = some (snV p.1 p.2)[j] := List.getElem?_eq_getElem hj
 rw [hx] at hfl ⊢
 exact own_cell h.row hfl
theorem sameTxn_same (cd vl s1 s2 : Int) (fd : Bool) (pa pb : Value) (ps : List (Int × Int)) (w : World) (hn : ps.length <= 1048576) (hp : RS 2 CPr 0 w pa ps) (hq : RS 2 CPr 0 w pb ps) :
 Calls Tryz.prog 11 #[.agg #[.int .i64 cd, .int .i64 vl, .int .i64 s1, .bool fd, pa], .agg #[.int .i64 cd, .int .i64 vl, .int .i64 s2, .bool fd, pb]] w fun e w' => e = .returned (.bool true) /\ Below w.heap.size w w' := by
 obtain ⟨a, ca, rfl, hva⟩ := hp
 obtain ⟨b, cb, rfl, hub⟩ := hq
 have g1 : (cd != cd) = false := by simp
 have g2 : (vl != vl) = false := by simp
 have g3 : (fd != fd) = false := by simp
 have g4 : ((ps.length : Int) != (ps.length : Int)) = false := by simp
 go_enter Tryz.func11, Tryz.ntmps11
 go_wp2
 go_loopw [37] (fun i wr => ∃ k : Nat, k <= ps.length /\ i = .int .i64 k /\ Below w.heap.size w wr /\ wr.cell? ⟨w.heap.size, 4, none⟩ = some (.slice a ps.length ca) /\ wr.cell? ⟨w.heap.size + 1, 4, none⟩ = some (.slice b ps.length cb)) (fun i _ => ps.length - (intOf i).toNat)
 case atStart => exact ⟨0, Nat.zero_le _, rfl, bl, by simp [go_sem], by simp [go_sem]⟩
 case round =>
  obtain ⟨k, hk, rfl, hbel, x4, y4⟩ := hrel
  by_cases hlt : k < ps.length
  .have hlti : (k : Int) < ps.length := by omega
   obtain ⟨g, o, rfl, _, hg, hgc⟩ := hva (by omega)
   obtain ⟨g2, o2, rfl, _, hg2, hgc2⟩ := hub (by omega)
   obtain ⟨cs, hC, hcell⟩ := hgc k hlt
   obtain ⟨ds, hD, hcell2⟩ := hgc2 k hlt
   unfold CPr pairV at hC hD
   subst hC hD
   have c0 : wr.cell? ⟨g, o + k * 2, none⟩ = some (.int .i64 ps[k].1) := ct hbel hg (hcell 0 (by omega))
   have c1 : wr.cell? ⟨g, o + k * 2 + 1, none⟩ = some (.int .i64 ps[k].2) := ct hbel hg (hcell 1 (by omega))
   have d0 : wr.cell? ⟨g2, o2 + k * 2, none⟩ = some (.int .i64 ps[k].1) := ct hbel hg2 (hcell2 0 (by omega))
   have d1 : wr.cell? ⟨g2, o2 + k * 2 + 1, none⟩ = some (.int .i64 ps[k].2) := ct hbel hg2 (hcell2 1 (by omega))
   clear hgc hgc2 hva hub hcell hcell2
   generalize ps[k] = t at c0 c1 d0 d1
   obtain ⟨t1, t2⟩ := t
   simp only at c0 c1 d0 d1
   have hbs := hbel.size
   go_wp2
   go_quiet (fail)
   go_wp2
   go_roundw
   case rel => exact ⟨k + 1, by omega, by go_num, hbel.trans ((below_drewNt _ _).mono hbs), x4, y4⟩
   case measure => simp [intOf]; omega
  .have hlti : ¬ (k : Int) < ps.length := by omega
   go_wp2
   go_ret
   exact ⟨rfl, hbel⟩
structure L1 (w : World) (dv : Value) (us os : List Opn) (v : Value) (wr : World) : Prop where
 row : wr.ownsRow w.heap.size 41 7 v os.length (os.flatMap opK)
 drw : wr.ownsRow w.heap.size 41 7 dv us.length (us.flatMap opK)
 ne : ∀ g, dv.ownBlock = some g -> v.ownBlock ≠ some g
 bel : Below w.heap.size w wr
theorem L1.below {w : World} {dv : Value} {us os : List Opn} {v : Value} {wr w' : World} (h : L1 w dv us os v wr) (hb : Below wr.heap.size wr w') : L1 w dv us os v w' := ⟨own_below h.row hb, own_below h.drw hb, h.ne, h.bel.trans (hb.mono h.bel.size)⟩
theorem L1.push {w : World} {dv : Value} {us os : List Opn} {v v' : Value} {wr w' : World} {o p : Opn} (h : L1 w dv us os v wr) (hg : wr.grownBy w' v.ownBlock) (ho : w'.ownsRow w.heap.size 41 7 v' (os.length + 2) (os.flatMap opK ++ (opK o ++ opK p))) (hat : v'.ownBlock = v.ownBlock \/ v'.ownBlock = some wr.heap.size) : L1 w dv us (os ++ [o, p]) v' w' := by
 have hl := fun g hg => (h.row.lt g hg)
 have hf := Fr.grown hg
 refine ⟨by rw [List.length_append, List.flatMap_append]; simpa using ho, own_fr h.drw hf (fun g hg z => h.ne g hg z), fun g hg e => ?_, h.bel.trans (hf.below h.bel.size (fun g hg => (hl g hg).1))⟩
 rcases hat with z | z
 .exact h.ne g hg (z ▸ e)
 .rw [z] at e; injection e with e; have := (h.drw.lt g hg).2; omega
theorem L1.cells {w : World} {dv : Value} {us os : List Opn} {v : Value} {wr : World} {g c : Nat} (h : L1 w dv us os v wr) (hv : dv = .slice (some ⟨g, 0, none⟩) us.length c) {k : Nat} (hk : k < us.length) : ∀ j, j < 7 -> wr.cell? ⟨g, k * 7 + j, none⟩ = (opK us[k])[j]? := fun j hj => by
 have hz : (us.map opK)[k]? = some (opK us[k]) := by rw [List.getElem?_map, List.getElem?_eq_getElem hk]; rfl
 have hfl := flK_get (K := 7) (tv := us.map opK) (fun l hl => by obtain ⟨o, _, rfl⟩ := List.mem_map.1 hl; rfl) hz hj
 rw [<- List.flatMap_def] at hfl
 have hx : (opK us[k])[j]? = some (opK us[k])[j] := List.getElem?_eq_getElem (by rw [opK_len]; exact hj)
 rw [hx] at hfl ⊢
 exact own_cells h.drw hv hfl
theorem txnL_small {os : List Opn} (h : os.length <= 1000) : txnL os = (runsF bas0 os).2 /\ txnC os = 0 := by
 unfold txnL txnC
 rw [if_neg (by omega), if_neg (by omega)]
 exact ⟨rfl, rfl⟩
theorem oneCO {B : Nat} {w : World} {cs : List Value} {x : Opn} (h : CO B w cs x) : ∀ u ∈ cs, u.oneCell' = true := by
 unfold CO at h
 subst h
 exact oneOp x
theorem runs_at : ∀ (us : List Opn) (x : Bas) (k : Nat) (h : k < us.length), (runsF x us).2[k]? = some (runF (runsF x (us.take k)).1 us[k]).2
 | [], _, _, h => by cases h
 | u :: r, x, 0, _ => rfl
 | u :: r, x, k + 1, h => by
   have := runs_at r (runF x u).1 k (by simpa using h)
   show ((runF x u).2 :: (runsF (runF x u).1 r).2)[k + 1]? = _
   rw [List.getElem?_cons_succ, this]
   rfl
theorem runs_next {us : List Opn} {x : Bas} {k : Nat} (h : k < us.length) : (runsF x (us.take (k + 1))).1 = (runF (runsF x (us.take k)).1 us[k]).1 := by
 rw [show us.take (k + 1) = us.take k ++ [us[k]] by rw [List.take_add_one, List.getElem?_eq_getElem h]; rfl, runsF_snoc]
structure LL (W0 : World) (gn : Nat) (os : List Opn) (k : Nat) (wr : World) (nw : List Sn) (vs : List (Value × Value × Value)) (pv : Value) (ps : List (Sn × (Value × Value × Value))) : Prop where
 mem : LM W0.heap.size W0 wr gn nw vs
 pm : PM W0.heap.size wr pv ps
 pn : pv.ownBlock ≠ some gn
 bel : Below W0.heap.size W0 wr
 si : SI (runsF bas0 (os.take k)).1 nw (ps.map Prod.fst)
 kb : ∀ n ∈ nw, n.ks.length <= k
 pb : ∀ p ∈ ps, p.1.ks.length <= k
 pl : ps.length <= k
theorem LL.step {W0 : World} {gn : Nat} {os : List Opn} {k : Nat} {wr : World} {nw : List Sn} {vs : List (Value × Value × Value)} {pv : Value} {ps : List (Sn × (Value × Value × Value))} {L : List Obn} {o : Opn} (h : LL W0 gn os k wr nw vs pv ps) (hL : L = (runsF bas0 os).2) (ho : os[k]? = some o) : ∃ a, L[k]? = some a /\ SI (runsF bas0 (os.take (k + 1))).1 (stepS nw (ps.map Prod.fst) o a).1 (stepS nw (ps.map Prod.fst) o a).2 /\ StepF nw o a := by
 obtain ⟨hk, rfl⟩ := List.getElem?_eq_some_iff.1 ho
 refine ⟨_, by rw [hL]; exact runs_at os bas0 k hk, ?_⟩
 rw [runs_next hk]
 exact step_ok h.si os[k]
theorem rs_at {α : Type} {K : Nat} {C : Nat -> World -> List Value -> α -> Prop} {W wr : World} {a : Option Addr} {n c k : Nat} {xs : List α} {x : α} (h : RS K C 0 W (.slice a n c) xs) (hb : Below W.heap.size W wr) (hx : xs[k]? = some x) : ∃ g o cs, a = some ⟨g, o, none⟩ /\ n = xs.length /\ g < wr.heap.size /\ C 0 W cs x /\ ∀ j, j < K -> wr.cell? ⟨g, o + k * K + j, none⟩ = cs[j]? := by
 obtain ⟨hk, rfl⟩ := List.getElem?_eq_some_iff.1 hx
 obtain ⟨a', c', e, hh⟩ := h
 injection e with e1 e2 e3
 obtain ⟨g, o, e4, _, hg, hc⟩ := hh (by omega)
 obtain ⟨cs, h1, h2⟩ := hc k hk
 exact ⟨g, o, cs, e1.trans e4, e2, Nat.lt_of_lt_of_le hg hb.size, h1, fun j hj => (hb.cell (p := ⟨g, o + k * K + j, none⟩) hg).trans (h2 j hj)⟩
theorem infoSn : (Tryz.prog.info? 47).map (fun i => (i.zero, i.size, i.bytes)) = some (some (.agg #[.bool false, .bool false, .int .i64 0, .int .i64 0, .slice none 0 0, .slice none 0 0, .slice none 0 0]), 7, 96) := by kernel_rfl
def z7 : List Value := [.bool false, .bool false, .int .i64 0, .int .i64 0, .slice none 0 0, .slice none 0 0, .slice none 0 0]
def z35 : List Value := z7 ++ (z7 ++ (z7 ++ (z7 ++ z7)))
theorem mk35 (W : World) : (Instr.makeSlice 43 (.int .i64 5) (.int .i64 5)).run Tryz.prog W = .ok (.slice (some ⟨W.heap.size, 0, none⟩) 5 5) (W.alloc (.cells z35.toArray 47)) := by
 obtain ⟨i0, hi, hz0, hz1, hz2⟩ := info_parts infoSn
 have h := run_makeSlice W 43 47 i0 _ Tryz.underlying43 hi hz0 .i64 .i64 5 5 (by decide) (by decide) (by rw [hz1]; decide) (by rw [hz2]; decide) (by decide)
 rw [hz1] at h
 have e : madeCells (Value.agg #[.bool false, .bool false, .int .i64 0, .int .i64 0, .slice none 0 0, .slice none 0 0, .slice none 0 0]).cells (Int.toNat 5 * 7) = z35.toArray := by first | rfl | kernel_rfl | decide
 rw [e] at h
 exact h
theorem z35_is : (List.zipWith snV (List.replicate 5 sn0) (List.replicate 5 v30)).flatten = z35 := rfl
theorem ll0_start (W0 : World) (os : List Opn) : LL W0 W0.heap.size os 0 ((W0.alloc (.cells z35.toArray 47)).alloc (.cells #[] 47)) (List.replicate 5 sn0) (List.replicate 5 v30) (.slice (some ⟨W0.heap.size + 1, 0, none⟩) 0 0) [] := by
 have hb1 := below_alloc W0 (.cells z35.toArray 47)
 have hb2 := below_alloc (W0.alloc (.cells z35.toArray 47)) (.cells #[] 47)
 have hl : W0.heap.size < (W0.alloc (.cells z35.toArray 47)).heap.size := by simp
 have hB : Blk (W0.alloc (.cells z35.toArray 47)) W0.heap.size z35 := blk_new W0 z35 _
 have hT : tag (W0.alloc (.cells z35.toArray 47)) W0.heap.size 47 := tag_new _ _ _
 have hrep : ∀ {α : Type} {a x : α} {i : Nat}, (List.replicate 5 a)[i]? = some x -> x = a := fun {α a x i} h => by
  have := List.mem_of_getElem? h
  rw [List.mem_replicate] at this
  exact this.2
 refine ⟨⟨by simp, by simp, ?_, tag_below hT hb2, Nat.le_refl _, fun i u q hu hq => ?_, fun i j q r hq hr hij g hg => ?_, fun i j q r hq hr hij g hg => ?_⟩, ⟨?_, by simp, by simp⟩, ?_, hb1.trans (hb2.mono (by simp)), si0, fun n hn => ?_, by simp, by simp⟩
 .rw [z35_is]; exact Blk.below hB hb2 hl
 .rw [hrep hu, hrep hq]
  exact snm0 _ _ _
 .rw [hrep hq] at hg
  simp [v30, Value.ownBlock] at hg
 .rw [hrep hq] at hg
  simp [v30, Value.ownBlock] at hg
 .have := World.ownsRow_made (base := W0.heap.size) (e := 47) (size := 7) (W0.alloc (.cells z35.toArray 47)) #[] 0 (by simp) (by unfold maxLen; omega) (by simp)
  simpa using this
 .intro e
  simp [Value.ownBlock] at e
 .rw [List.mem_replicate] at hn
  rw [hn.2]
  simp [sn0]
theorem setW7 (w : World) (g o : Nat) (a b c d e f h : Value) : setW w g o [a, b, c, d, e, f, h] = ((((((w.setCell ⟨g, o, none⟩ a).setCell ⟨g, o + 1, none⟩ b).setCell ⟨g, o + 2, none⟩ c).setCell ⟨g, o + 3, none⟩ d).setCell ⟨g, o + 4, none⟩ e).setCell ⟨g, o + 5, none⟩ f).setCell ⟨g, o + 6, none⟩ h := rfl
theorem LL.same {W0 : World} {gn : Nat} {os : List Opn} {k : Nat} {wr wc : World} {nw : List Sn} {vs : List (Value × Value × Value)} {pv : Value} {ps : List (Sn × (Value × Value × Value))} (h : LL W0 gn os k wr nw vs pv ps) (hb : Below wr.heap.size wr wc) (hsi : SI (runsF bas0 (os.take (k + 1))).1 nw (ps.map Prod.fst)) : LL W0 gn os (k + 1) wc nw vs pv ps :=
 ⟨h.mem.below hb, h.pm.below hb, h.pn, h.bel.trans (hb.mono h.bel.size), hsi, fun n hn => Nat.le_succ_of_le (h.kb n hn), fun p hp => Nat.le_succ_of_le (h.pb p hp), Nat.le_succ_of_le h.pl⟩
theorem LL.put {W0 : World} {gn : Nat} {os : List Opn} {k : Nat} {wr wx : World} {nw : List Sn} {vs : List (Value × Value × Value)} {pv pv' : Value} {ps ps' : List (Sn × (Value × Value × Value))} {s : Nat} {n : Sn} {v : Value × Value × Value} (h : LL W0 gn os k wr nw vs pv ps) (hq : LR W0.heap.size W0 wx gn nw vs s n v) (hs : s < 5) (hpm : PM W0.heap.size wx pv' ps') (hpn : pv'.ownBlock ≠ some gn) (hbel : Below W0.heap.size W0 wx) (hsi : SI (runsF bas0 (os.take (k + 1))).1 (nw.set s n) (ps'.map Prod.fst)) (hnk : n.ks.length <= k + 1) (hpb : ∀ p ∈ ps', p.1.ks.length <= k + 1) (hpl : ps'.length <= k + 1) : LL W0 gn os (k + 1) (setW wx gn (s * 7) (snV n v)) (nw.set s n) (vs.set s v) pv' ps' := by
 refine ⟨hq.done hs, hpm.fr (fr_setW gn _ _ _) (fun g hg ht => tag_ne ht (hg ▸ hq.gt) (by decide) rfl) (fun g hg e => hpn (by rw [hg, e])), hpn, below_setW hq.gB _ _ _ hbel, hsi, fun m hm => ?_, hpb, hpl⟩
 rcases List.mem_or_eq_of_mem_set hm with z | z
 .exact Nat.le_succ_of_le (h.kb m z)
 .rw [z]; exact hnk
theorem LL.bel2 {W0 : World} {gn : Nat} {os : List Opn} {k : Nat} {wr wc : World} {nw : List Sn} {vs : List (Value × Value × Value)} {pv : Value} {ps : List (Sn × (Value × Value × Value))} (h : LL W0 gn os k wr nw vs pv ps) (hb : Below wr.heap.size wr wc) : LL W0 gn os k wc nw vs pv ps :=
 ⟨h.mem.below hb, h.pm.below hb, h.pn, h.bel.trans (hb.mono h.bel.size), h.si, h.kb, h.pb, h.pl⟩
end Go.Proofs.YtblkgicbimflhaaGreat
