import Derived.Test.YtblkgicbimflhaaGreatProg
import Derived.WalkKit
import Derived.ProofKit
import Derived.OpenShut
import Derived.WalkLawsBesides
import Derived.Deep.Light
import Derived.WalkSpells
import Derived.OwnWalk
import Derived.Deep.QuietTactic
import Derived.BigQuiet
import Derived.Deep.RegionWith
import Derived.Laws.Bits64
namespace Go.Proofs.YtblkgicbimflhaaGreat
open Go.ChangeShapes Go.WideShapes Go.ChangeAt Go.RowKit
set_option linter.unusedVariables false
set_option linter.unusedSimpArgs false
set_option maxRecDepth 100000
set_option maxHeartbeats 16000000
theorem hid {p : Prop} (h : p) : Hid p := h
theorem below_alloc (w : World) (o : Obj) : Below w.heap.size w (w.alloc o) := (Below.refl _ w).alloc (Nat.le_refl _) o
theorem undrew {W w' : World} (hb : Below W.drew.heap.size W.drew w') : Below W.heap.size W w' := (Below.refl W.heap.size W).drew.trans hb
theorem below_drewNt (w : World) : ∀ n, Below w.heap.size w (w.drewN n)
 | 0 => Below.refl _ _
 | n + 1 => (below_drewNt w n).drew
theorem own_cell {w : World} {b e s g n c : Nat} {xs : List Value} {u : Value} {j : Nat} (h : w.ownsRow b e s (.slice (some ⟨g, 0, none⟩) n c) n xs) (hj : xs[j]? = some u) : w.cell? ⟨g, j, none⟩ = some u := by
 have := h.cells rfl j u hj
 by_cases hz : j = 0
 .subst hz; simpa [Addr.add] using this
 .simpa [Addr.add, hz] using this
theorem own_below {w w' : World} {b e k n : Nat} {v : Value} {xs : List Value} (h : w.ownsRow b e k v n xs) (hb : Below w.heap.size w w') : w'.ownsRow b e k v n xs := by
 have hl := h.lt
 obtain ⟨h1, h2⟩ := h
 refine ⟨h1, ?_⟩
 rcases h2 with h2 | ⟨g, cap, cur, rfl, hg1, hg2, hg3⟩
 .exact .inl h2
 .exact .inr ⟨g, cap, cur, rfl, hg1, (hb.block g (hl g rfl).2).trans hg2, hg3⟩
structure Lies {α : Type} (k : Nat) (C : Nat -> World -> List Value -> α -> Prop) : Prop where
 len : ∀ {B w cs x}, C B w cs x -> cs.length = k
 mono : ∀ {B D w cs x}, C B w cs x -> D <= B -> C D w cs x
 below : ∀ {B w w' cs x}, C B w cs x -> Below w.heap.size w w' -> C B w' cs x
 set : ∀ {B w cs x} {c j : Nat} {u : Value}, C B w cs x -> c < B -> C B (w.setCell ⟨c, j, none⟩ u) cs x
def RS {α : Type} (k : Nat) (C : Nat -> World -> List Value -> α -> Prop) (B : Nat) (w : World) (v : Value) (xs : List α) : Prop :=
 ∃ a cap, v = .slice a xs.length cap /\ (0 < xs.length -> ∃ g o, a = some ⟨g, o, none⟩ /\ B <= g /\ g < w.heap.size /\ ∀ i (h : i < xs.length), ∃ cs, C B w cs xs[i] /\ ∀ j, j < k -> w.cell? ⟨g, o + i * k + j, none⟩ = cs[j]?)
theorem RS.mono {α : Type} {k : Nat} {C : Nat -> World -> List Value -> α -> Prop} (hC : Lies k C) {B D : Nat} {w : World} {v : Value} {xs : List α} (h : RS k C B w v xs) (hd : D <= B) : RS k C D w v xs := by
 obtain ⟨a, cap, rfl, h2⟩ := h
 refine ⟨a, cap, rfl, fun hp => ?_⟩
 obtain ⟨g, o, ha, hB, hg, hc⟩ := h2 hp
 exact ⟨g, o, ha, Nat.le_trans hd hB, hg, fun i hi => let ⟨cs, a, b⟩ := hc i hi; ⟨cs, hC.mono a hd, b⟩⟩
theorem RS.below {α : Type} {k : Nat} {C : Nat -> World -> List Value -> α -> Prop} (hC : Lies k C) {B : Nat} {w w' : World} {v : Value} {xs : List α} (h : RS k C B w v xs) (hb : Below w.heap.size w w') : RS k C B w' v xs := by
 obtain ⟨a, cap, rfl, h2⟩ := h
 refine ⟨a, cap, rfl, fun hp => ?_⟩
 obtain ⟨g, o, ha, hB, hg, hc⟩ := h2 hp
 exact ⟨g, o, ha, hB, Nat.lt_of_lt_of_le hg hb.size, fun i hi => let ⟨cs, a, b⟩ := hc i hi; ⟨cs, hC.below a hb, fun j hj => (hb.cell (p := ⟨g, o + i * k + j, none⟩) hg).trans (b j hj)⟩⟩
theorem RS.set {α : Type} {k : Nat} {C : Nat -> World -> List Value -> α -> Prop} (hC : Lies k C) {B c j : Nat} {w : World} {v u : Value} {xs : List α} (h : RS k C B w v xs) (hc : c < B) : RS k C B (w.setCell ⟨c, j, none⟩ u) v xs := by
 obtain ⟨a, cap, rfl, h2⟩ := h
 refine ⟨a, cap, rfl, fun hp => ?_⟩
 obtain ⟨g, o, ha, hB, hg, hc'⟩ := h2 hp
 refine ⟨g, o, ha, hB, by simpa using hg, fun i hi => ?_⟩
 obtain ⟨cs, a, b⟩ := hc' i hi
 refine ⟨cs, hC.set a hc, fun l hl => ?_⟩
 rw [World.cell?_setCell_other w ⟨c, j, none⟩ ⟨g, o + i * k + l, none⟩ u (fun e => by cases e; omega)]
 exact b l hl
def CI (B : Nat) (w : World) (cs : List Value) (x : Int) : Prop := cs = [.int .i64 x]
theorem liesI : Lies 1 CI := ⟨fun h => by rw [h]; rfl, fun h _ => h, fun h _ => h, fun h _ => h⟩
def Fill {α : Type} (K : Nat) (C : Nat -> World -> List Value -> α -> Prop) (B : Nat) (us : List α) (k : Nat) (xs : List Value) (w : World) : Prop := xs.length = us.length * K /\ ∀ i (h : i < us.length), i < k -> ∃ cs, C B w cs us[i] /\ ∀ j, j < K -> xs[i * K + j]? = cs[j]?
theorem mul_le {i k K : Nat} (h : i < k) : i * K + K <= k * K := by
 have := Nat.mul_le_mul_right K (show i + 1 <= k by omega)
 rw [Nat.succ_mul] at this
 exact this
def Blk (w : World) (b : Nat) (cs : List Value) : Prop := ∀ j, j < cs.length -> w.cell? ⟨b, j, none⟩ = cs[j]? /\ w.frozen? ⟨b, j, none⟩ = false
theorem Blk.below {w w' : World} {b : Nat} {cs : List Value} (h : Blk w b cs) (hb : Below w.heap.size w w') (hl : b < w.heap.size) : Blk w' b cs := fun j hj => ⟨(hb.cell (p := ⟨b, j, none⟩) hl).trans (h j hj).1, (hb.frozen (p := ⟨b, j, none⟩) hl).trans (h j hj).2⟩
theorem bl {p : Prop} (h : p := by (go_light; repeat (first | with_reducible assumption | with_reducible exact Below.refl _ _ | (with_reducible refine Below.setCell ?_ ?_ _; rotate_left; (focus first | (simp; done) | (simp; omega) | omega)) | (with_reducible refine Below.alloc ?_ ?_ _; rotate_left; (focus first | (simp; done) | (simp; omega) | omega)) | with_reducible refine Below.drew ?_))) : p := h
theorem q1 {α : Type} (l : List α) (i : Nat) (a : α) : l.toArray.setIfInBounds i a = (l.set i a).toArray := List.setIfInBounds_toArray ..
theorem q2 {α : Type} (a b : α) (l : List α) : (a :: l).set 0 b = b :: l := rfl
theorem q3 {α : Type} (a b : α) (l : List α) (n : Nat) : (a :: l).set (n + 1) b = a :: l.set n b := rfl
theorem kj {w : World} {b o : Nat} {cs : List Value} {x y : Value} (h : Blk w b cs) (h1 : o < cs.length) (h2 : o + 1 < cs.length) (hx : cs[o]? = some x) (hy : cs[o + 1]? = some y) : w.cell? ⟨b, o, none⟩ = some x /\ w.cell? ⟨b, o + 1, none⟩ = some y /\ w.frozen? ⟨b, o, none⟩ = false /\ w.frozen? ⟨b, o + 1, none⟩ = false := ⟨(h o h1).1.trans hx, (h (o + 1) h2).1.trans hy, (h o h1).2, (h (o + 1) h2).2⟩
theorem ct {B : Nat} {w w' : World} {g o : Nat} {v : Value} (h : Below B w w') (hg : g < B) (hc : w.cell? ⟨g, o, none⟩ = some v) : w'.cell? ⟨g, o, none⟩ = some v := (h.cell (p := ⟨g, o, none⟩) hg).trans hc
theorem kb0 {w : World} {b : Nat} {a0 : Value} {r : List Value} (h : Blk w b (a0 :: r)) : w.cell? ⟨b, 0, none⟩ = some a0 /\ w.frozen? ⟨b, 0, none⟩ = false := h 0 (by simp)
theorem kb1 {w : World} {b : Nat} {a0 a1 : Value} {r : List Value} (h : Blk w b (a0 :: a1 :: r)) : (w.cell? ⟨b, 0, none⟩ = some a0 /\ w.frozen? ⟨b, 0, none⟩ = false) /\ (w.cell? ⟨b, 1, none⟩ = some a1 /\ w.frozen? ⟨b, 1, none⟩ = false) := ⟨h 0 (by simp), h 1 (by simp)⟩
theorem kc1 {w : World} {b : Nat} {a0 a1 : Value} {r : List Value} (h : Blk w b (a0 :: a1 :: r)) : w.cell? ⟨b, 0, none⟩ = some a0 /\ w.cell? ⟨b, 1, none⟩ = some a1 := ⟨(h 0 (by simp)).1, (h 1 (by simp)).1⟩
theorem kf1 {w : World} {b : Nat} {a0 a1 : Value} {r : List Value} (h : Blk w b (a0 :: a1 :: r)) : w.frozen? ⟨b, 0, none⟩ = false /\ w.frozen? ⟨b, 1, none⟩ = false := ⟨(h 0 (by simp)).2, (h 1 (by simp)).2⟩
theorem kb2 {w : World} {b : Nat} {a0 a1 a2 : Value} {r : List Value} (h : Blk w b (a0 :: a1 :: a2 :: r)) : (w.cell? ⟨b, 0, none⟩ = some a0 /\ w.frozen? ⟨b, 0, none⟩ = false) /\ (w.cell? ⟨b, 1, none⟩ = some a1 /\ w.frozen? ⟨b, 1, none⟩ = false) /\ (w.cell? ⟨b, 2, none⟩ = some a2 /\ w.frozen? ⟨b, 2, none⟩ = false) := ⟨h 0 (by simp), h 1 (by simp), h 2 (by simp)⟩
theorem kc2 {w : World} {b : Nat} {a0 a1 a2 : Value} {r : List Value} (h : Blk w b (a0 :: a1 :: a2 :: r)) : w.cell? ⟨b, 0, none⟩ = some a0 /\ w.cell? ⟨b, 1, none⟩ = some a1 /\ w.cell? ⟨b, 2, none⟩ = some a2 := ⟨(h 0 (by simp)).1, (h 1 (by simp)).1, (h 2 (by simp)).1⟩
theorem kf2 {w : World} {b : Nat} {a0 a1 a2 : Value} {r : List Value} (h : Blk w b (a0 :: a1 :: a2 :: r)) : w.frozen? ⟨b, 0, none⟩ = false /\ w.frozen? ⟨b, 1, none⟩ = false /\ w.frozen? ⟨b, 2, none⟩ = false := ⟨(h 0 (by simp)).2, (h 1 (by simp)).2, (h 2 (by simp)).2⟩
theorem kb3 {w : World} {b : Nat} {a0 a1 a2 a3 : Value} {r : List Value} (h : Blk w b (a0 :: a1 :: a2 :: a3 :: r)) : (w.cell? ⟨b, 0, none⟩ = some a0 /\ w.frozen? ⟨b, 0, none⟩ = false) /\ (w.cell? ⟨b, 1, none⟩ = some a1 /\ w.frozen? ⟨b, 1, none⟩ = false) /\ (w.cell? ⟨b, 2, none⟩ = some a2 /\ w.frozen? ⟨b, 2, none⟩ = false) /\ (w.cell? ⟨b, 3, none⟩ = some a3 /\ w.frozen? ⟨b, 3, none⟩ = false) := ⟨h 0 (by simp), h 1 (by simp), h 2 (by simp), h 3 (by simp)⟩
theorem kc3 {w : World} {b : Nat} {a0 a1 a2 a3 : Value} {r : List Value} (h : Blk w b (a0 :: a1 :: a2 :: a3 :: r)) : w.cell? ⟨b, 0, none⟩ = some a0 /\ w.cell? ⟨b, 1, none⟩ = some a1 /\ w.cell? ⟨b, 2, none⟩ = some a2 /\ w.cell? ⟨b, 3, none⟩ = some a3 := ⟨(h 0 (by simp)).1, (h 1 (by simp)).1, (h 2 (by simp)).1, (h 3 (by simp)).1⟩
theorem kf3 {w : World} {b : Nat} {a0 a1 a2 a3 : Value} {r : List Value} (h : Blk w b (a0 :: a1 :: a2 :: a3 :: r)) : w.frozen? ⟨b, 0, none⟩ = false /\ w.frozen? ⟨b, 1, none⟩ = false /\ w.frozen? ⟨b, 2, none⟩ = false /\ w.frozen? ⟨b, 3, none⟩ = false := ⟨(h 0 (by simp)).2, (h 1 (by simp)).2, (h 2 (by simp)).2, (h 3 (by simp)).2⟩
theorem kb4 {w : World} {b : Nat} {a0 a1 a2 a3 a4 : Value} {r : List Value} (h : Blk w b (a0 :: a1 :: a2 :: a3 :: a4 :: r)) : (w.cell? ⟨b, 0, none⟩ = some a0 /\ w.frozen? ⟨b, 0, none⟩ = false) /\ (w.cell? ⟨b, 1, none⟩ = some a1 /\ w.frozen? ⟨b, 1, none⟩ = false) /\ (w.cell? ⟨b, 2, none⟩ = some a2 /\ w.frozen? ⟨b, 2, none⟩ = false) /\ (w.cell? ⟨b, 3, none⟩ = some a3 /\ w.frozen? ⟨b, 3, none⟩ = false) /\ (w.cell? ⟨b, 4, none⟩ = some a4 /\ w.frozen? ⟨b, 4, none⟩ = false) := ⟨h 0 (by simp), h 1 (by simp), h 2 (by simp), h 3 (by simp), h 4 (by simp)⟩
theorem kc4 {w : World} {b : Nat} {a0 a1 a2 a3 a4 : Value} {r : List Value} (h : Blk w b (a0 :: a1 :: a2 :: a3 :: a4 :: r)) : w.cell? ⟨b, 0, none⟩ = some a0 /\ w.cell? ⟨b, 1, none⟩ = some a1 /\ w.cell? ⟨b, 2, none⟩ = some a2 /\ w.cell? ⟨b, 3, none⟩ = some a3 /\ w.cell? ⟨b, 4, none⟩ = some a4 := ⟨(h 0 (by simp)).1, (h 1 (by simp)).1, (h 2 (by simp)).1, (h 3 (by simp)).1, (h 4 (by simp)).1⟩
theorem kf4 {w : World} {b : Nat} {a0 a1 a2 a3 a4 : Value} {r : List Value} (h : Blk w b (a0 :: a1 :: a2 :: a3 :: a4 :: r)) : w.frozen? ⟨b, 0, none⟩ = false /\ w.frozen? ⟨b, 1, none⟩ = false /\ w.frozen? ⟨b, 2, none⟩ = false /\ w.frozen? ⟨b, 3, none⟩ = false /\ w.frozen? ⟨b, 4, none⟩ = false := ⟨(h 0 (by simp)).2, (h 1 (by simp)).2, (h 2 (by simp)).2, (h 3 (by simp)).2, (h 4 (by simp)).2⟩
theorem kb5 {w : World} {b : Nat} {a0 a1 a2 a3 a4 a5 : Value} {r : List Value} (h : Blk w b (a0 :: a1 :: a2 :: a3 :: a4 :: a5 :: r)) : (w.cell? ⟨b, 0, none⟩ = some a0 /\ w.frozen? ⟨b, 0, none⟩ = false) /\ (w.cell? ⟨b, 1, none⟩ = some a1 /\ w.frozen? ⟨b, 1, none⟩ = false) /\ (w.cell? ⟨b, 2, none⟩ = some a2 /\ w.frozen? ⟨b, 2, none⟩ = false) /\ (w.cell? ⟨b, 3, none⟩ = some a3 /\ w.frozen? ⟨b, 3, none⟩ = false) /\ (w.cell? ⟨b, 4, none⟩ = some a4 /\ w.frozen? ⟨b, 4, none⟩ = false) /\ (w.cell? ⟨b, 5, none⟩ = some a5 /\ w.frozen? ⟨b, 5, none⟩ = false) := ⟨h 0 (by simp), h 1 (by simp), h 2 (by simp), h 3 (by simp), h 4 (by simp), h 5 (by simp)⟩
theorem kc5 {w : World} {b : Nat} {a0 a1 a2 a3 a4 a5 : Value} {r : List Value} (h : Blk w b (a0 :: a1 :: a2 :: a3 :: a4 :: a5 :: r)) : w.cell? ⟨b, 0, none⟩ = some a0 /\ w.cell? ⟨b, 1, none⟩ = some a1 /\ w.cell? ⟨b, 2, none⟩ = some a2 /\ w.cell? ⟨b, 3, none⟩ = some a3 /\ w.cell? ⟨b, 4, none⟩ = some a4 /\ w.cell? ⟨b, 5, none⟩ = some a5 := ⟨(h 0 (by simp)).1, (h 1 (by simp)).1, (h 2 (by simp)).1, (h 3 (by simp)).1, (h 4 (by simp)).1, (h 5 (by simp)).1⟩
theorem kf5 {w : World} {b : Nat} {a0 a1 a2 a3 a4 a5 : Value} {r : List Value} (h : Blk w b (a0 :: a1 :: a2 :: a3 :: a4 :: a5 :: r)) : w.frozen? ⟨b, 0, none⟩ = false /\ w.frozen? ⟨b, 1, none⟩ = false /\ w.frozen? ⟨b, 2, none⟩ = false /\ w.frozen? ⟨b, 3, none⟩ = false /\ w.frozen? ⟨b, 4, none⟩ = false /\ w.frozen? ⟨b, 5, none⟩ = false := ⟨(h 0 (by simp)).2, (h 1 (by simp)).2, (h 2 (by simp)).2, (h 3 (by simp)).2, (h 4 (by simp)).2, (h 5 (by simp)).2⟩
theorem kb6 {w : World} {b : Nat} {a0 a1 a2 a3 a4 a5 a6 : Value} {r : List Value} (h : Blk w b (a0 :: a1 :: a2 :: a3 :: a4 :: a5 :: a6 :: r)) : (w.cell? ⟨b, 0, none⟩ = some a0 /\ w.frozen? ⟨b, 0, none⟩ = false) /\ (w.cell? ⟨b, 1, none⟩ = some a1 /\ w.frozen? ⟨b, 1, none⟩ = false) /\ (w.cell? ⟨b, 2, none⟩ = some a2 /\ w.frozen? ⟨b, 2, none⟩ = false) /\ (w.cell? ⟨b, 3, none⟩ = some a3 /\ w.frozen? ⟨b, 3, none⟩ = false) /\ (w.cell? ⟨b, 4, none⟩ = some a4 /\ w.frozen? ⟨b, 4, none⟩ = false) /\ (w.cell? ⟨b, 5, none⟩ = some a5 /\ w.frozen? ⟨b, 5, none⟩ = false) /\ (w.cell? ⟨b, 6, none⟩ = some a6 /\ w.frozen? ⟨b, 6, none⟩ = false) := ⟨h 0 (by simp), h 1 (by simp), h 2 (by simp), h 3 (by simp), h 4 (by simp), h 5 (by simp), h 6 (by simp)⟩
theorem kc6 {w : World} {b : Nat} {a0 a1 a2 a3 a4 a5 a6 : Value} {r : List Value} (h : Blk w b (a0 :: a1 :: a2 :: a3 :: a4 :: a5 :: a6 :: r)) : w.cell? ⟨b, 0, none⟩ = some a0 /\ w.cell? ⟨b, 1, none⟩ = some a1 /\ w.cell? ⟨b, 2, none⟩ = some a2 /\ w.cell? ⟨b, 3, none⟩ = some a3 /\ w.cell? ⟨b, 4, none⟩ = some a4 /\ w.cell? ⟨b, 5, none⟩ = some a5 /\ w.cell? ⟨b, 6, none⟩ = some a6 := ⟨(h 0 (by simp)).1, (h 1 (by simp)).1, (h 2 (by simp)).1, (h 3 (by simp)).1, (h 4 (by simp)).1, (h 5 (by simp)).1, (h 6 (by simp)).1⟩
theorem kf6 {w : World} {b : Nat} {a0 a1 a2 a3 a4 a5 a6 : Value} {r : List Value} (h : Blk w b (a0 :: a1 :: a2 :: a3 :: a4 :: a5 :: a6 :: r)) : w.frozen? ⟨b, 0, none⟩ = false /\ w.frozen? ⟨b, 1, none⟩ = false /\ w.frozen? ⟨b, 2, none⟩ = false /\ w.frozen? ⟨b, 3, none⟩ = false /\ w.frozen? ⟨b, 4, none⟩ = false /\ w.frozen? ⟨b, 5, none⟩ = false /\ w.frozen? ⟨b, 6, none⟩ = false := ⟨(h 0 (by simp)).2, (h 1 (by simp)).2, (h 2 (by simp)).2, (h 3 (by simp)).2, (h 4 (by simp)).2, (h 5 (by simp)).2, (h 6 (by simp)).2⟩
theorem kb7 {w : World} {b : Nat} {a0 a1 a2 a3 a4 a5 a6 a7 : Value} {r : List Value} (h : Blk w b (a0 :: a1 :: a2 :: a3 :: a4 :: a5 :: a6 :: a7 :: r)) : (w.cell? ⟨b, 0, none⟩ = some a0 /\ w.frozen? ⟨b, 0, none⟩ = false) /\ (w.cell? ⟨b, 1, none⟩ = some a1 /\ w.frozen? ⟨b, 1, none⟩ = false) /\ (w.cell? ⟨b, 2, none⟩ = some a2 /\ w.frozen? ⟨b, 2, none⟩ = false) /\ (w.cell? ⟨b, 3, none⟩ = some a3 /\ w.frozen? ⟨b, 3, none⟩ = false) /\ (w.cell? ⟨b, 4, none⟩ = some a4 /\ w.frozen? ⟨b, 4, none⟩ = false) /\ (w.cell? ⟨b, 5, none⟩ = some a5 /\ w.frozen? ⟨b, 5, none⟩ = false) /\ (w.cell? ⟨b, 6, none⟩ = some a6 /\ w.frozen? ⟨b, 6, none⟩ = false) /\ (w.cell? ⟨b, 7, none⟩ = some a7 /\ w.frozen? ⟨b, 7, none⟩ = false) := ⟨h 0 (by simp), h 1 (by simp), h 2 (by simp), h 3 (by simp), h 4 (by simp), h 5 (by simp), h 6 (by simp), h 7 (by simp)⟩
theorem kc7 {w : World} {b : Nat} {a0 a1 a2 a3 a4 a5 a6 a7 : Value} {r : List Value} (h : Blk w b (a0 :: a1 :: a2 :: a3 :: a4 :: a5 :: a6 :: a7 :: r)) : w.cell? ⟨b, 0, none⟩ = some a0 /\ w.cell? ⟨b, 1, none⟩ = some a1 /\ w.cell? ⟨b, 2, none⟩ = some a2 /\ w.cell? ⟨b, 3, none⟩ = some a3 /\ w.cell? ⟨b, 4, none⟩ = some a4 /\ w.cell? ⟨b, 5, none⟩ = some a5 /\ w.cell? ⟨b, 6, none⟩ = some a6 /\ w.cell? ⟨b, 7, none⟩ = some a7 := ⟨(h 0 (by simp)).1, (h 1 (by simp)).1, (h 2 (by simp)).1, (h 3 (by simp)).1, (h 4 (by simp)).1, (h 5 (by simp)).1, (h 6 (by simp)).1, (h 7 (by simp)).1⟩
theorem kf7 {w : World} {b : Nat} {a0 a1 a2 a3 a4 a5 a6 a7 : Value} {r : List Value} (h : Blk w b (a0 :: a1 :: a2 :: a3 :: a4 :: a5 :: a6 :: a7 :: r)) : w.frozen? ⟨b, 0, none⟩ = false /\ w.frozen? ⟨b, 1, none⟩ = false /\ w.frozen? ⟨b, 2, none⟩ = false /\ w.frozen? ⟨b, 3, none⟩ = false /\ w.frozen? ⟨b, 4, none⟩ = false /\ w.frozen? ⟨b, 5, none⟩ = false /\ w.frozen? ⟨b, 6, none⟩ = false /\ w.frozen? ⟨b, 7, none⟩ = false := ⟨(h 0 (by simp)).2, (h 1 (by simp)).2, (h 2 (by simp)).2, (h 3 (by simp)).2, (h 4 (by simp)).2, (h 5 (by simp)).2, (h 6 (by simp)).2, (h 7 (by simp)).2⟩
structure TI where
 bgn : Int
 com : Int
 reads : List Int
 writes : List Int
def CT (B : Nat) (w : World) (cs : List Value) (x : TI) : Prop := ∃ rv wv, cs = [.int .i64 x.bgn, .int .i64 x.com, rv, wv] /\ RS 1 CI B w rv x.reads /\ RS 1 CI B w wv x.writes
theorem liesT : Lies 4 CT :=
 ⟨fun ⟨_, _, h, _⟩ => by rw [h]; rfl, fun ⟨a, b, h, r, s⟩ hd => ⟨a, b, h, r.mono liesI hd, s.mono liesI hd⟩, fun ⟨a, b, h, r, s⟩ hb => ⟨a, b, h, r.below liesI hb, s.below liesI hb⟩, fun ⟨a, b, h, r, s⟩ hc => ⟨a, b, h, r.set liesI hc, s.set liesI hc⟩⟩
def BT (M : Nat) (x : TI) : Prop := x.reads.length <= M /\ x.writes.length <= M
def BH (M : Nat) (x : List TI) : Prop := x.length <= M /\ ∀ t ∈ x, BT M t
def RB (p : Prop) (e : Ending) : Prop := ∃ b : Bool, e = .returned (.bool b) /\ (b = true ↔ p)
theorem rb_t {p : Prop} (h : p) : RB p (.returned (.bool true)) := ⟨true, rfl, ⟨fun _ => h, fun _ => rfl⟩⟩
theorem rb_f {p : Prop} (h : ¬ p) : RB p (.returned (.bool false)) := ⟨false, rfl, ⟨fun z => (by cases z), fun q => absurd q h⟩⟩
def meetP (xs ys : List Int) : Prop := ∃ x ∈ xs, x ∈ ys
theorem rb_yes {P : Program} {F : Nat} {av : Array Value} {w : World} {p : Prop} {Q : World -> Prop} (h : Calls P F av w fun e w' => RB p e /\ Q w') (hp : p) : Calls P F av w fun e w' => e = .returned (.bool true) /\ Q w' :=
 h.mono fun e w' ⟨⟨b, he, hb⟩, hq⟩ => ⟨by rw [he, hb.2 hp], hq⟩
theorem rb_no {P : Program} {F : Nat} {av : Array Value} {w : World} {p : Prop} {Q : World -> Prop} (h : Calls P F av w fun e w' => RB p e /\ Q w') (hp : ¬ p) : Calls P F av w fun e w' => e = .returned (.bool false) /\ Q w' :=
 h.mono fun e w' ⟨⟨b, he, hb⟩, hq⟩ => ⟨by rw [he, Bool.eq_false_iff.2 (fun z => hp (hb.1 z))], hq⟩
theorem take_step {α : Type} {xs : List α} {P : α -> Prop} {k : Nat} (hlt : k < xs.length) (h : ∀ x ∈ xs.take k, P x) (z : P xs[k]) : ∀ x ∈ xs.take (k + 1), P x := fun t ht => by
 rw [show xs.take (k + 1) = xs.take k ++ [xs[k]] by rw [List.take_add_one, List.getElem?_eq_getElem hlt]; rfl] at ht
 rcases List.mem_append.1 ht with h' | h'
 .exact h t h'
 .rw [List.mem_singleton] at h'; rw [h']; exact z
theorem meet_spec (a b : Option Addr) (ca cb : Nat) (xs ys : List Int) (w : World) (hn : xs.length <= 1048576) (hm : ys.length <= 1048576) (ha : RS 1 CI 0 w (.slice a xs.length ca) xs) (hb : RS 1 CI 0 w (.slice b ys.length cb) ys) :
 Calls Tryz.prog 107 #[.slice a xs.length ca, .slice b ys.length cb] w fun e w' => RB (meetP xs ys) e /\ Below w.heap.size w w' := by
 obtain ⟨a', ca', he, hva⟩ := ha
 simp only [Value.slice.injEq] at he
 obtain ⟨rfl, _, rfl⟩ := he
 obtain ⟨b', cb', he, hvb⟩ := hb
 simp only [Value.slice.injEq] at he
 obtain ⟨rfl, _, rfl⟩ := he
 go_enter Tryz.func107, Tryz.ntmps107
 go_wp2
 go_loopw [11] (fun i wr => ∃ k : Nat, k <= xs.length /\ i = .int .i64 k /\ Hid (∀ x ∈ xs.take k, x ∉ ys) /\ Below w.heap.size w wr) (fun i _ => xs.length - (intOf i).toNat)
 case atStart => exact ⟨0, Nat.zero_le _, rfl, (fun x h => by simp at h : ∀ x ∈ xs.take 0, x ∉ ys), Below.refl _ _⟩
 case round =>
  obtain ⟨k, hk, rfl, HO, hbel⟩ := hrel
  have hbs := hbel.size
  by_cases hlt : k < xs.length
  .have hlti : (k : Int) < xs.length := by omega
   obtain ⟨g, o, rfl, _, hg, hgc⟩ := hva (by omega)
   obtain ⟨cs, hC, hcell⟩ := hgc k hlt
   unfold CI at hC
   subst hC
   have c0 : wr.cell? ⟨g, o + k, none⟩ = some (.int .i64 xs[k]) := (hbel.cell (p := ⟨g, o + k, none⟩) hg).trans (by have := hcell 0 (by omega); rw [Nat.mul_one, Nat.add_zero] at this; exact this)
   have HST := hid (take_step (P := fun x => x ∉ ys) hlt HO.out)
   have HY : Hid (xs[k] ∈ ys -> meetP xs ys) := hid (fun h => ⟨_, List.getElem_mem hlt, h⟩)
   clear hgc hva hcell HO
   generalize xs[k] = x at c0 HST HY
   go_wp2
   go_loopw [17] (fun j wr => ∃ l : Nat, l <= ys.length /\ j = .int .i64 l /\ Hid (∀ y ∈ ys.take l, x ≠ y) /\ Below w.heap.size w wr) (fun j _ => ys.length - (intOf j).toNat)
   case atStart => exact ⟨0, Nat.zero_le _, rfl, (fun y h => by simp at h : ∀ y ∈ ys.take 0, x ≠ y), hbel⟩
   case round =>
    obtain ⟨l, hl, rfl, HP, hbel2⟩ := hrel
    clear hbel
    by_cases hlt2 : l < ys.length
    .have hlti2 : (l : Int) < ys.length := by omega
     obtain ⟨g2, o2, rfl, _, hg2, hgc2⟩ := hvb (by omega)
     obtain ⟨ds, hD, hcell2⟩ := hgc2 l hlt2
     unfold CI at hD
     subst hD
     have d0 : wr.cell? ⟨g2, o2 + l, none⟩ = some (.int .i64 ys[l]) := (hbel2.cell (p := ⟨g2, o2 + l, none⟩) hg2).trans (by have := hcell2 0 (by omega); rw [Nat.mul_one, Nat.add_zero] at this; exact this)
     have HSU := hid (take_step (P := fun y => x ≠ y) hlt2 HP.out)
     have HYY : Hid (x = ys[l] -> meetP xs ys) := hid (fun h => HY.out (h ▸ List.getElem_mem hlt2))
     clear hgc2 hvb hcell2 HP HY
     generalize ys[l] = y at d0 HSU HYY
     by_cases hxy : x = y
     .have HT := hid (HYY.out hxy)
      clear HYY HSU
      go_wp2
      go_ret
      exact ⟨rb_t HT.out, hbel2⟩
     .have HV := hid (HSU.out hxy)
      clear HYY HSU
      go_wp2
      go_roundw
      case rel => exact ⟨l + 1, by omega, by go_num, HV, hbel2⟩
      case measure => simp [intOf]; omega
    .have hln : l = ys.length := by omega
     subst hln
     have hlti2 : ¬ (ys.length : Int) < ys.length := by omega
     have HV := hid (HST.out (fun h => by have := HP.out; rw [List.take_length] at this; exact this x h rfl))
     clear HP HY HST
     go_wp2
     go_roundw
     case rel => exact ⟨k + 1, by omega, by go_num, HV, hbel2⟩
     case measure => simp [intOf]; omega
  .have hkn : k = xs.length := by omega
   subst hkn
   have hlti : ¬ (xs.length : Int) < xs.length := by omega
   have HF : Hid (¬ meetP xs ys) := hid (fun ⟨x, h1, h2⟩ => by have := HO.out; rw [List.take_length] at this; exact this x h1 h2)
   clear HO
   go_wp2
   go_ret
   exact ⟨rb_f HF.out, hbel⟩
theorem Blk.other {w : World} {b c j : Nat} {u : Value} {cs : List Value} (h : Blk w b cs) (hc : c ≠ b) : Blk (w.setCell ⟨c, j, none⟩ u) b cs := fun l hl => by
 have hne : ∀ e : (⟨b, l, none⟩ : Addr) = ⟨c, j, none⟩, False := fun e => by cases e; exact hc rfl
 refine ⟨?_, ?_⟩
 .rw [World.cell?_setCell_other w ⟨c, j, none⟩ ⟨b, l, none⟩ u (fun e => by cases e; exact hc rfl)]; exact (h l hl).1
 .simpa using (h l hl).2
theorem Blk.set {w : World} {b : Nat} {cs : List Value} (h : Blk w b cs) (j : Nat) (u : Value) (hj : j < cs.length := by simp) : Blk (w.setCell ⟨b, j, none⟩ u) b (cs.set j u) := fun l hl => by
 rw [List.length_set] at hl
 refine ⟨?_, ?_⟩
 .by_cases e : l = j
  .subst e
   rw [List.getElem?_set_self hl]
   have := (h l hl).1
   rw [List.getElem?_eq_getElem hl] at this
   simp [go_sem, this, (h l hl).2]
  .rw [List.getElem?_set_ne (by omega), World.cell?_setCell_other w ⟨b, j, none⟩ ⟨b, l, none⟩ u (fun e' => by cases e'; exact e rfl)]
   exact (h l hl).1
 .simpa using (h l hl).2
theorem blk_new (w : World) (cs : List Value) (t : Nat) : Blk (w.alloc (.cells cs.toArray t)) w.heap.size cs := fun j hj => by
 refine ⟨?_, ?_⟩
 .simp [go_sem]
 .simp [go_sem]
theorem blkA (w : World) (c0 c1 c2 : List Value) (t0 t1 t2 : Nat) : Blk (((w.alloc (.cells c0.toArray t0)).alloc (.cells c1.toArray t1)).alloc (.cells c2.toArray t2)) w.heap.size c0 :=
 ((blk_new w c0 t0).below (below_alloc _ _) (by simp)).below (below_alloc _ _) (by simp; omega)
theorem blkB (w : World) (c0 c1 c2 : List Value) (t0 t1 t2 : Nat) : Blk (((w.alloc (.cells c0.toArray t0)).alloc (.cells c1.toArray t1)).alloc (.cells c2.toArray t2)) (w.heap.size + 1) c1 := by
 have := blk_new (w.alloc (.cells c0.toArray t0)) c1 t1
 rw [show (w.alloc (.cells c0.toArray t0)).heap.size = w.heap.size + 1 by simp] at this
 exact this.below (below_alloc _ _) (by simp)
theorem blkC (w : World) (c0 c1 c2 : List Value) (t0 t1 t2 : Nat) : Blk (((w.alloc (.cells c0.toArray t0)).alloc (.cells c1.toArray t1)).alloc (.cells c2.toArray t2)) (w.heap.size + 1 + 1) c2 := by
 have := blk_new ((w.alloc (.cells c0.toArray t0)).alloc (.cells c1.toArray t1)) c2 t2
 rw [show ((w.alloc (.cells c0.toArray t0)).alloc (.cells c1.toArray t1)).heap.size = w.heap.size + 1 + 1 by simp] at this
 exact this
theorem blkD (w : World) (c0 c1 : List Value) (t0 t1 : Nat) : Blk ((w.alloc (.cells c0.toArray t0)).alloc (.cells c1.toArray t1)) (w.heap.size + 1) c1 := by
 have := blk_new (w.alloc (.cells c0.toArray t0)) c1 t1
 rw [show (w.alloc (.cells c0.toArray t0)).heap.size = w.heap.size + 1 by simp] at this
 exact this
theorem infoInt : (Tryz.prog.info? 3).map (fun i => (i.zero, i.size, i.bytes)) = some (some (.int .i64 0), 1, 8) := by kernel_rfl
def leadsP (s t : TI) : Prop := s.bgn < t.com /\ t.bgn < s.com /\ meetP s.reads t.writes
theorem leads_spec (s t : TI) (cs ds : List Value) (w : World) (hs : BT 1048576 s) (ht : BT 1048576 t) (hC : CT 0 w cs s) (hD : CT 0 w ds t) :
 Calls Tryz.prog 95 #[.agg cs.toArray, .agg ds.toArray] w fun e w' => RB (leadsP s t) e /\ Below w.heap.size w w' := by
 obtain ⟨v0, v1, rfl, r0, r1⟩ := hC
 have R0 := hid r0
 obtain ⟨a0, q0, rfl, _⟩ := r0
 have R1 := hid r1
 obtain ⟨a1, q1, rfl, _⟩ := r1
 obtain ⟨xv0, xv1, rfl, xr0, xr1⟩ := hD
 have S0 := hid xr0
 obtain ⟨xa0, xq0, rfl, _⟩ := xr0
 have S1 := hid xr1
 obtain ⟨xa1, xq1, rfl, _⟩ := xr1
 have bw : Below w.heap.size w ((w.alloc (.cells #[.int .i64 s.bgn, .int .i64 s.com, .slice a0 s.reads.length q0, .slice a1 s.writes.length q1] 131)).alloc (.cells #[.int .i64 t.bgn, .int .i64 t.com, .slice xa0 t.reads.length xq0, .slice xa1 t.writes.length xq1] 131)) := (below_alloc w _).alloc (by simp) _
 by_cases h1 : s.bgn < t.com
 .by_cases h2 : t.bgn < s.com
  .have hcn := meet_spec _ _ _ _ s.reads t.writes ((w.alloc (.cells #[.int .i64 s.bgn, .int .i64 s.com, .slice a0 s.reads.length q0, .slice a1 s.writes.length q1] 131)).alloc (.cells #[.int .i64 t.bgn, .int .i64 t.com, .slice xa0 t.reads.length xq0, .slice xa1 t.writes.length xq1] 131)) hs.1 ht.2 (R0.out.below liesI bw) (S1.out.below liesI bw)
   have HP : Hid (meetP s.reads t.writes ↔ leadsP s t) := hid (⟨fun h => ⟨h1, h2, h⟩, fun h => h.2.2⟩)
   go_enter Tryz.func95, Tryz.ntmps95
   go_wp2_with (go_at_call 107; fail)
   refine hcn.mono ?_
   rintro e w1 ⟨⟨r, rfl, hr⟩, hb'⟩
   have bw1 : Below w.heap.size w w1 := bw.trans (hb'.mono bw.size)
   have HRB : Hid (RB (leadsP s t) (.returned (.bool r))) := ⟨r, rfl, hr.trans HP.out⟩
   clear hb' hcn hr HP
   go_wp2
   go_ret
   exact ⟨HRB.out, bw1⟩
  .have HF : Hid (¬ leadsP s t) := hid (fun h => h2 h.2.1)
   go_enter Tryz.func95, Tryz.ntmps95
   go_wp2
   go_ret
   exact ⟨rb_f HF.out, bw⟩
 .have HF : Hid (¬ leadsP s t) := hid (fun h => h1 h.1)
  go_enter Tryz.func95, Tryz.ntmps95
  go_wp2
  go_ret
  exact ⟨rb_f HF.out, bw⟩
def tabAt (l : List Int) (i : Nat) : Prop := 0 <= l.getD i 0 /\ l.getD i 0 < 32 /\ (0 < i -> l.getD (i - 1) 0 < l.getD i 0)
def tabP (l : List Int) : Prop := l.length <= 32 /\ ∀ i, i < l.length -> tabAt l i
theorem getD_at {l : List Int} {k : Nat} (h : k < l.length) : l.getD k 0 = l[k] := by rw [List.getD_eq_getElem?_getD, List.getElem?_eq_getElem h]; rfl
theorem tables_spec (a : Option Addr) (ca : Nat) (xs : List Int) (w : World) (hn : xs.length <= 1048576) (ha : RS 1 CI 0 w (.slice a xs.length ca) xs) :
 Calls Tryz.prog 94 #[.slice a xs.length ca] w fun e w' => RB (tabP xs) e /\ w' = w := by
 by_cases hbig : (32 : Int) < xs.length
 .have HF : Hid (¬ tabP xs) := hid (fun h => by have := h.1; omega)
  clear ha
  go_enter Tryz.func94, Tryz.ntmps94
  go_wp2
  go_ret
  exact ⟨rb_f HF.out, rfl⟩
 obtain ⟨a', ca', he, hva⟩ := ha
 simp only [Value.slice.injEq] at he
 obtain ⟨rfl, _, rfl⟩ := he
 go_enter Tryz.func94, Tryz.ntmps94
 go_wp2
 go_loopw [10] (fun i wr => ∃ k : Nat, k <= xs.length /\ i = .int .i64 k /\ Hid (∀ j, j < k -> tabAt xs j) /\ wr = w) (fun i _ => xs.length - (intOf i).toNat)
 case atStart => exact ⟨0, Nat.zero_le _, rfl, (fun x h => absurd h (Nat.not_lt_zero _) : ∀ j, j < 0 -> tabAt xs j), rfl⟩
 case round =>
  obtain ⟨k, hk, rfl, HO, hww⟩ := hrel
  replace hww := hww.symm
  subst hww
  by_cases hlt : k < xs.length
  .have hlti : (k : Int) < xs.length := by omega
   obtain ⟨g, o, rfl, _, hg, hgc⟩ := hva (by omega)
   obtain ⟨cs, hC, hcell⟩ := hgc k hlt
   unfold CI at hC
   subst hC
   have c0 : w.cell? ⟨g, o + k, none⟩ = some (.int .i64 xs[k]) := ((Below.refl _ w).cell (p := ⟨g, o + k, none⟩) hg).trans (by have := hcell 0 (by omega); rw [Nat.mul_one, Nat.add_zero] at this; exact this)
   have HST : Hid (tabAt xs k -> ∀ j, j < k + 1 -> tabAt xs j) := hid (fun z j hj => by
    by_cases e : j = k
    .subst e; exact z
    .exact HO.out j (by omega))
   have HNo : Hid (¬ tabAt xs k -> ¬ tabP xs) := hid (fun z h => z (h.2 k hlt))
   have HD := hid (getD_at hlt)
   clear hcell HO
   generalize hx : xs[k] = x at c0 HD
   clear hx
   by_cases h0 : x < 0
   .have HF := hid (HNo.out (fun h => by have := h.1; rw [HD.out] at this; omega))
    clear hgc hva HST HNo HD
    go_wp2
    go_ret
    exact ⟨rb_f HF.out, rfl⟩
   by_cases h1 : 32 <= x
   .have HF := hid (HNo.out (fun h => by have := h.2.1; rw [HD.out] at this; omega))
    clear hgc hva HST HNo HD
    go_wp2
    go_ret
    exact ⟨rb_f HF.out, rfl⟩
   by_cases hk0 : (0 : Int) < k
   .obtain ⟨ds, hE, hcell2⟩ := hgc (k - 1) (by omega)
    unfold CI at hE
    subst hE
    have d0 : w.cell? ⟨g, o + (k - 1), none⟩ = some (.int .i64 xs[k - 1]) := ((Below.refl _ w).cell (p := ⟨g, o + (k - 1), none⟩) hg).trans (by have := hcell2 0 (by omega); rw [Nat.mul_one, Nat.add_zero] at this; exact this)
    have HE := hid (getD_at (show k - 1 < xs.length by omega))
    have hw : IntKind.i64.wrap ((k : Int) - 1) = ((k - 1 : Nat) : Int) := by simp only [IntKind.wrap_i64, wrap64]; omega
    have hk1 : ((k - 1 : Nat) : Int) < xs.length := by omega
    clear hgc hva hcell2
    generalize hy : xs[k - 1] = y at d0 HE
    clear hy
    generalize hkp : k - 1 = kp at d0 HE hw hk1
    by_cases h2 : x <= y
    .have HF := hid (HNo.out (fun h => by have := h.2.2 (by omega); rw [HD.out, hkp, HE.out] at this; omega))
     clear HST HNo HD HE hkp
     go_wp2
     go_ret
     exact ⟨rb_f HF.out, rfl⟩
    .have HV := hid (HST.out ⟨by rw [HD.out]; omega, by rw [HD.out]; omega, fun _ => by rw [HD.out, hkp, HE.out]; omega⟩)
     clear HST HNo HD HE hkp
     go_wp2
     go_roundw
     case rel => exact ⟨k + 1, by omega, by go_num, HV, by first | exact rfl | trivial⟩
     case measure => simp [intOf]; omega
   .have HV := hid (HST.out ⟨by rw [HD.out]; omega, by rw [HD.out]; omega, fun z => by omega⟩)
    clear HST HNo HD hgc hva
    go_wp2
    go_roundw
    case rel => exact ⟨k + 1, by omega, by go_num, HV, by first | exact rfl | trivial⟩
    case measure => simp [intOf]; omega
  .have hkn : k = xs.length := by omega
   subst hkn
   have hlti : ¬ (xs.length : Int) < xs.length := by omega
   have HT : Hid (tabP xs) := hid (⟨by omega, HO.out⟩)
   clear HO
   go_wp2
   go_ret
   exact ⟨rb_t HT.out, rfl⟩
theorem toNat_u64 (a : Nat) (ha : a < 18446744073709551616) : (BitVec.ofInt 64 (a : Int)).toNat = a := by
 rw [BitVec.ofInt_natCast, BitVec.toNat_ofNat]; exact Nat.mod_eq_of_lt (by omega)
theorem bits_or_nat (a b : Nat) (ha : a < 18446744073709551616) (hb : b < 18446744073709551616) : bits .or .u64 (a : Int) (b : Int) = ((a ||| b : Nat) : Int) := by
 have hx : a ||| b < 2 ^ 64 := Nat.or_lt_two_pow (by omega) (by omega)
 show IntKind.u64.wrap ((BitVec.ofInt 64 (a : Int) ||| BitVec.ofInt 64 (b : Int)).toNat : Int) = _
 rw [BitVec.toNat_or, toNat_u64 a ha, toNat_u64 b hb, IntKind.wrap_u64]
 omega
theorem bits_and_nat (a b : Nat) (ha : a < 18446744073709551616) (hb : b < 18446744073709551616) : bits .and .u64 (a : Int) (b : Int) = ((a &&& b : Nat) : Int) := by
 have hx : a &&& b < 2 ^ 64 := Nat.and_lt_two_pow _ (by omega)
 show IntKind.u64.wrap ((BitVec.ofInt 64 (a : Int) &&& BitVec.ofInt 64 (b : Int)).toNat : Int) = _
 rw [BitVec.toNat_and, toNat_u64 a ha, toNat_u64 b hb, IntKind.wrap_u64]
 omega
def bitsOf (xs : List Int) : Nat := xs.foldl (fun b t => b ||| 2 ^ t.toNat) 0
theorem bitsOf_step {xs : List Int} {k : Nat} (h : k < xs.length) : bitsOf (xs.take (k + 1)) = bitsOf (xs.take k) ||| 2 ^ xs[k].toNat := by
 unfold bitsOf
 rw [show xs.take (k + 1) = xs.take k ++ [xs[k]] by rw [List.take_add_one, List.getElem?_eq_getElem h]; rfl, List.foldl_append]
 rfl
theorem fold_bit (i : Nat) : ∀ (xs : List Int) (b : Nat), ((xs.foldl (fun b t => b ||| 2 ^ t.toNat) b).testBit i = true ↔ b.testBit i = true \/ ∃ x ∈ xs, x.toNat = i)
 | [], b => by simp
 | x :: r, b => by
   rw [List.foldl_cons, fold_bit i r, Nat.testBit_or, Nat.testBit_two_pow]
   simp only [Bool.or_eq_true, decide_eq_true_eq, List.mem_cons, exists_eq_or_imp]
   exact or_assoc
theorem bitsOf_bit (xs : List Int) (i : Nat) : (bitsOf xs).testBit i = true ↔ ∃ x ∈ xs, x.toNat = i := by
 unfold bitsOf
 rw [fold_bit]
 simp
theorem fold_lt : ∀ (xs : List Int) (b : Nat), (∀ x ∈ xs, x < 32) -> b < 2 ^ 32 -> xs.foldl (fun b t => b ||| 2 ^ t.toNat) b < 2 ^ 32
 | [], b, _, h => h
 | x :: r, b, hx, h => by
   rw [List.foldl_cons]
   refine fold_lt r _ (fun y hy => hx y (List.mem_cons_of_mem _ hy)) (Nat.or_lt_two_pow h ?_)
   have := hx x List.mem_cons_self
   exact Nat.pow_lt_pow_right (by decide) (by omega)
theorem tab_of {xs : List Int} (h : ∀ j, j < xs.length -> tabAt xs j) : ∀ x ∈ xs, 0 <= x /\ x < 32 := fun x hx => by
 obtain ⟨i, hi, rfl⟩ := List.getElem_of_mem hx
 have := h i hi
 unfold tabAt at this
 rw [getD_at hi] at this
 exact ⟨this.1, this.2.1⟩
theorem bitsOf_lt {xs : List Int} (h : ∀ x ∈ xs, 0 <= x /\ x < 32) : bitsOf xs < 2 ^ 32 := fold_lt xs 0 (fun x hx => (h x hx).2) (by decide)
theorem tab_rise {xs : List Int} (h : ∀ j, j < xs.length -> tabAt xs j) : ∀ i, i < xs.length -> (i : Int) <= xs.getD i 0
 | 0, hi => (h 0 hi).1
 | i + 1, hi => by
   have h1 := tab_rise h i (by omega)
   have h2 := (h (i + 1) hi).2.2 (by omega)
   rw [show i + 1 - 1 = i from rfl] at h2
   omega
theorem tab_all {xs : List Int} (h : ∀ j, j < xs.length -> tabAt xs j) : tabP xs := ⟨by
 rcases Nat.eq_zero_or_pos xs.length with h0 | h0
 .omega
 .have h1 := tab_rise h (xs.length - 1) (by omega)
  have h2 := (h (xs.length - 1) (by omega)).2.1
  omega, h⟩
theorem bits_meet {xs ys : List Int} (hx : ∀ x ∈ xs, 0 <= x /\ x < 32) (hy : ∀ x ∈ ys, 0 <= x /\ x < 32) : bitsOf xs &&& bitsOf ys ≠ 0 ↔ meetP xs ys := by
 constructor
 .intro h
  apply Classical.byContradiction
  intro hn
  apply h
  apply Nat.eq_of_testBit_eq
  intro i
  rw [Nat.testBit_and, Nat.zero_testBit]
  apply Bool.eq_false_iff.2
  intro hb
  rw [Bool.and_eq_true, bitsOf_bit, bitsOf_bit] at hb
  obtain ⟨⟨x, x1, x2⟩, y, y1, y2⟩ := hb
  have := hx x x1
  have := hy y y1
  exact hn ⟨x, x1, by rw [show x = y by omega]; exact y1⟩
 .rintro ⟨x, h1, h2⟩ h0
  have h3 : (bitsOf xs &&& bitsOf ys).testBit x.toNat = true := by
   rw [Nat.testBit_and, Bool.and_eq_true, bitsOf_bit, bitsOf_bit]
   exact ⟨⟨x, h1, rfl⟩, x, h2, rfl⟩
  rw [h0, Nat.zero_testBit] at h3
  cases h3
theorem within_any (x a b : Int) (w : World) :
 Calls Tryz.prog 63 #[.int .i64 x, .int .i64 a, .int .i64 b] w fun e w' => e = .returned (.bool (decide (a <= x) && decide (x <= b))) /\ w' = w := by
 by_cases h1 : a <= x
 .by_cases h2 : x <= b
  .have HE : (decide (a <= x) && decide (x <= b)) = true := by simp [h1, h2]
   rw [HE]
   clear HE
   go_enter Tryz.func63, Tryz.ntmps63
   go_wp2
   go_ret
   exact ⟨rfl, rfl⟩
  .have HE : (decide (a <= x) && decide (x <= b)) = false := by simp [h2]
   rw [HE]
   clear HE
   go_enter Tryz.func63, Tryz.ntmps63
   go_wp2
   go_ret
   exact ⟨rfl, rfl⟩
 .have HE : (decide (a <= x) && decide (x <= b)) = false := by simp [h1]
  rw [HE]
  clear HE
  go_enter Tryz.func63, Tryz.ntmps63
  go_wp2
  go_ret
  exact ⟨rfl, rfl⟩
def BitsR (xs : List Int) (e : Ending) : Prop := (tabP xs /\ e = .returned (.tuple #[.int .u64 (bitsOf xs : Nat), .bool true])) \/ (¬ tabP xs /\ e = .returned (.tuple #[.int .u64 0, .bool false]))
theorem tableBits_impl (a : Option Addr) (ca : Nat) (xs : List Int) (w : World) (hn : xs.length <= 1048576) (ha : RS 1 CI 0 w (.slice a xs.length ca) xs) :
 Calls Tryz.prog 52 #[.slice a xs.length ca] w fun e w' => BitsR xs e /\ w' = w := by
 obtain ⟨a', ca', he, hva⟩ := ha
 simp only [Value.slice.injEq] at he
 obtain ⟨rfl, _, rfl⟩ := he
 go_enter Tryz.func52, Tryz.ntmps52
 go_wp2
 go_loopw [4, 9] (fun bv i wr => ∃ k : Nat, k <= xs.length /\ bv = .int .u64 ((bitsOf (xs.take k) : Nat) : Int) /\ i = .int .i64 k /\ Hid (∀ j, j < k -> tabAt xs j) /\ wr = w) (fun _ i _ => xs.length - (intOf i).toNat)
 case atStart => exact ⟨0, Nat.zero_le _, rfl, rfl, (fun x h => absurd h (Nat.not_lt_zero _) : ∀ j, j < 0 -> tabAt xs j), rfl⟩
 case round =>
  obtain ⟨k, hk, rfl, rfl, HO, hww⟩ := hrel
  replace hww := hww.symm
  subst hww
  by_cases hlt : k < xs.length
  .have hlti : (k : Int) < xs.length := by omega
   obtain ⟨g, o, rfl, _, hg, hgc⟩ := hva (by omega)
   obtain ⟨cs, hC, hcell⟩ := hgc k hlt
   unfold CI at hC
   subst hC
   have c0 : w.cell? ⟨g, o + k, none⟩ = some (.int .i64 xs[k]) := ((Below.refl _ w).cell (p := ⟨g, o + k, none⟩) hg).trans (by have := hcell 0 (by omega); rw [Nat.mul_one, Nat.add_zero] at this; exact this)
   have HST : Hid (tabAt xs k -> ∀ j, j < k + 1 -> tabAt xs j) := hid (fun z j hj => by
    by_cases e : j = k
    .subst e; exact z
    .exact HO.out j (by omega))
   have HNo : Hid (¬ tabAt xs k -> ¬ tabP xs) := hid (fun z h => z (h.2 k hlt))
   have HD := hid (getD_at hlt)
   have HBS := hid (bitsOf_step hlt)
   have hBL : bitsOf (xs.take k) < 2 ^ 32 := bitsOf_lt (fun x hx => by
    obtain ⟨i, hi, rfl⟩ := List.getElem_of_mem hx
    have hi' : i < k := by rw [List.length_take] at hi; omega
    have := HO.out i hi'
    unfold tabAt at this
    rw [getD_at (show i < xs.length by omega)] at this
    rw [List.getElem_take]
    exact ⟨this.1, this.2.1⟩)
   clear hcell HO
   generalize hx : xs[k] = x at c0 HD HBS
   clear hx
   generalize hBk : bitsOf (xs.take k) = bk at hBL HBS ⊢
   clear hBk
   by_cases h0 : 0 <= x /\ x <= 31
   .have hin : (decide (0 <= x) && decide (x <= 31)) = true := by simp [h0.1, h0.2]
    have hsh : min x.toNat 64 = x.toNat := by omega
    have hp : 2 ^ x.toNat < 2 ^ 32 := Nat.pow_lt_pow_right (by decide) (by omega)
    have HOR : Hid (bits .or .u64 (bk : Int) ((2 : Int) ^ x.toNat) = ((bk ||| 2 ^ x.toNat : Nat) : Int)) := hid (by
     have h := bits_or_nat bk (2 ^ x.toNat) (by omega) (by omega)
     rw [<- h]
     simp)
    have hx0 : ¬ x < 0 := by omega
    have hwr : IntKind.u64.wrap (2 ^ x.toNat) = ((2 ^ x.toNat : Nat) : Int) := by
     rw [IntKind.wrap_u64]
     have e2 : (2 : Int) ^ x.toNat = ((2 ^ x.toNat : Nat) : Int) := by simp
     rw [e2]
     generalize 2 ^ x.toNat = z at hp ⊢
     omega
    have hshl : ∀ W, (binOp .shl 87 (.int .u64 1) (.int .i64 x)).run Tryz.prog W = .ok (.int .u64 ((2 ^ x.toNat : Nat) : Int)) W := fun W => by
     simp [binOp, Op.shift, hx0, IntKind.bits, hsh, hwr]
    by_cases hk0 : (0 : Int) < k
    .obtain ⟨ds, hE, hcell2⟩ := hgc (k - 1) (by omega)
     unfold CI at hE
     subst hE
     have d0 : w.cell? ⟨g, o + (k - 1), none⟩ = some (.int .i64 xs[k - 1]) := ((Below.refl _ w).cell (p := ⟨g, o + (k - 1), none⟩) hg).trans (by have := hcell2 0 (by omega); rw [Nat.mul_one, Nat.add_zero] at this; exact this)
     have HE := hid (getD_at (show k - 1 < xs.length by omega))
     have hw : IntKind.i64.wrap ((k : Int) - 1) = ((k - 1 : Nat) : Int) := by simp only [IntKind.wrap_i64, wrap64]; omega
     have hk1 : ((k - 1 : Nat) : Int) < xs.length := by omega
     clear hgc hva hcell2
     generalize hy : xs[k - 1] = y at d0 HE
     clear hy
     generalize hkp : k - 1 = kp at d0 HE hw hk1
     by_cases h2 : x <= y
     .have HF := hid (HNo.out (fun h => by have := h.2.2 (by omega); rw [HD.out, hkp, HE.out] at this; omega))
      clear HST HNo HD HE hkp HBS HOR hwr hsh
      go_wp2_with (go_at_call 63; refine (within_any _ _ _ _).mono ?_; rintro e w' ⟨rfl, rfl⟩; rw [hin])
      refine bodyPost_ret (v := .tuple #[.int .u64 0, .bool false]) (by simp [results, Tryz.results52, go_sem]) rfl ⟨.inr ⟨HF.out, rfl⟩, rfl⟩
     .have HV := hid (HST.out ⟨by rw [HD.out]; omega, by rw [HD.out]; omega, fun _ => by rw [HD.out, hkp, HE.out]; omega⟩)
      clear HST HNo HD HE hkp
      go_wp2_with (go_at_call 63; refine (within_any _ _ _ _).mono ?_; rintro e w' ⟨rfl, rfl⟩; rw [hin])
      go_roundw
      case rel => exact ⟨k + 1, by omega, by rw [HBS.out, <- HOR.out], by go_num, HV, by first | exact rfl | trivial⟩
      case measure => simp [intOf]; omega
    .have HV := hid (HST.out ⟨by rw [HD.out]; omega, by rw [HD.out]; omega, fun z => by omega⟩)
     clear HST HNo HD hgc hva
     go_wp2_with (go_at_call 63; refine (within_any _ _ _ _).mono ?_; rintro e w' ⟨rfl, rfl⟩; rw [hin])
     go_roundw
     case rel => exact ⟨k + 1, by omega, by rw [HBS.out, <- HOR.out], by go_num, HV, by first | exact rfl | trivial⟩
     case measure => simp [intOf]; omega
   .have hin : (decide (0 <= x) && decide (x <= 31)) = false := by simp; omega
    have HF := hid (HNo.out (fun h => by have h1 := h.1; have h2 := h.2.1; rw [HD.out] at h1 h2; omega))
    clear hgc hva HST HNo HD HBS
    go_wp2_with (go_at_call 63; refine (within_any _ _ _ _).mono ?_; rintro e w' ⟨rfl, rfl⟩; rw [hin])
    refine bodyPost_ret (v := .tuple #[.int .u64 0, .bool false]) (by simp [results, Tryz.results52, go_sem]) rfl ⟨.inr ⟨HF.out, rfl⟩, rfl⟩
  .have hkn : k = xs.length := by omega
   subst hkn
   have hlti : ¬ (xs.length : Int) < xs.length := by omega
   have HT := hid (tab_all HO.out)
   clear HO
   go_wp2
   refine bodyPost_ret (v := .tuple #[.int .u64 ((bitsOf (xs.take xs.length) : Nat) : Int), .bool true]) (by simp [results, Tryz.results52, go_sem]) rfl ⟨.inl ⟨HT.out, by rw [List.take_length]⟩, rfl⟩
def histAt (h : List TI) (i : Nat) : Prop := ∀ t, h[i]? = some t -> 0 <= t.bgn /\ t.bgn < t.com /\ (∀ s, 0 < i -> h[i - 1]? = some s -> s.com < t.com) /\ tabP t.reads /\ tabP t.writes
def histP (h : List TI) : Prop := h.length <= 1000 /\ ∀ i, i < h.length -> histAt h i
theorem history_spec (a : Option Addr) (ca : Nat) (us : List TI) (w : World) (hb : BH 1048576 us) (ha : RS 4 CT 0 w (.slice a us.length ca) us) :
 Calls Tryz.prog 79 #[.slice a us.length ca] w fun e w' => RB (histP us) e /\ Below w.heap.size w w' := by
 have hn := hb.1
 have HZ : Hid (∀ t ∈ us, BT 1048576 t) := hb.2
 clear hb
 by_cases hbig : (1000 : Int) < us.length
 .have HF : Hid (¬ histP us) := hid (fun h => by have := h.1; omega)
  clear ha
  go_enter Tryz.func79, Tryz.ntmps79
  go_wp2
  go_ret
  exact ⟨rb_f HF.out, Below.refl _ _⟩
 obtain ⟨a', ca', he, hva⟩ := ha
 simp only [Value.slice.injEq] at he
 obtain ⟨rfl, _, rfl⟩ := he
 go_enter Tryz.func79, Tryz.ntmps79
 go_wp2
 go_loopw [10] (fun i wr => ∃ k : Nat, k <= us.length /\ i = .int .i64 k /\ Hid (∀ j, j < k -> histAt us j) /\ Below w.heap.size w wr) (fun i _ => us.length - (intOf i).toNat)
 case atStart => exact ⟨0, Nat.zero_le _, rfl, (fun x h => absurd h (Nat.not_lt_zero _) : ∀ j, j < 0 -> histAt us j), Below.refl _ _⟩
 case round =>
  obtain ⟨k, hk, rfl, HO, hbel⟩ := hrel
  have hbs := hbel.size
  by_cases hlt : k < us.length
  .have hlti : (k : Int) < us.length := by omega
   obtain ⟨g, o, rfl, _, hg, hgc⟩ := hva (by omega)
   obtain ⟨cs, hC0, hcell⟩ := hgc k hlt
   have hC := liesT.below hC0 hbel
   have hB := HZ.out us[k] (List.getElem_mem hlt)
   have HST : Hid (histAt us k -> ∀ j, j < k + 1 -> histAt us j) := hid (fun z j hj => by
    by_cases e : j = k
    .subst e; exact z
    .exact HO.out j (by omega))
   have HNo : Hid (¬ histAt us k -> ¬ histP us) := hid (fun z h => z (h.2 k hlt))
   have HD : Hid (us[k]? = some us[k]) := List.getElem?_eq_getElem hlt
   clear HO hC0
   generalize hx : us[k] = t at *
   clear hx
   obtain ⟨v0, v1, rfl, r0, r1⟩ := hC
   have R0 := hid r0
   obtain ⟨a0, q0, rfl, _⟩ := r0
   have R1 := hid r1
   obtain ⟨a1, q1, rfl, _⟩ := r1
   have c0 : wr.cell? ⟨g, o + k * 4, none⟩ = some (.int .i64 t.bgn) := ct hbel hg (hcell 0 (by omega))
   have c1 : wr.cell? ⟨g, o + k * 4 + 1, none⟩ = some (.int .i64 t.com) := ct hbel hg (hcell 1 (by omega))
   have c2 : wr.cell? ⟨g, o + k * 4 + 2, none⟩ = some (.slice a0 t.reads.length q0) := ct hbel hg (hcell 2 (by omega))
   have c3 : wr.cell? ⟨g, o + k * 4 + 3, none⟩ = some (.slice a1 t.writes.length q1) := ct hbel hg (hcell 3 (by omega))
   clear hcell
   have bwA : Below w.heap.size w (wr.alloc (.cells #[.int .i64 t.bgn, .int .i64 t.com, .slice a0 t.reads.length q0, .slice a1 t.writes.length q1] 131)) := hbel.alloc hbs _
   have bwB : Below wr.heap.size wr (wr.alloc (.cells #[.int .i64 t.bgn, .int .i64 t.com, .slice a0 t.reads.length q0, .slice a1 t.writes.length q1] 131)) := below_alloc _ _
   have hzA : wr.heap.size < ((wr.alloc (.cells #[.int .i64 t.bgn, .int .i64 t.com, .slice a0 t.reads.length q0, .slice a1 t.writes.length q1] 131))).heap.size := by simp
   by_cases h0 : t.bgn < 0
   .have HF := hid (HNo.out (fun h => by have := (h t HD.out).1; omega))
    clear hgc hva HST HNo HD
    go_wp2
    have g0 : decide (t.bgn < 0) = true := decide_eq_true (by omega)
    go_quiet (fail)
    go_wp2
    go_ret
    exact ⟨rb_f HF.out, bwA.trans ((below_drewNt _ _).mono bwA.size)⟩
   by_cases h1 : t.com <= t.bgn
   .have HF := hid (HNo.out (fun h => by have := (h t HD.out).2.1; omega))
    clear hgc hva HST HNo HD
    go_wp2
    have g0 : decide (t.bgn < 0) = false := decide_eq_false (by omega)
    have g1 : decide (t.com <= t.bgn) = true := decide_eq_true (by omega)
    go_quiet (fail)
    go_wp2
    go_ret
    exact ⟨rb_f HF.out, bwA.trans ((below_drewNt _ _).mono bwA.size)⟩
   have hcn1 := fun n => tables_spec a0 q0 t.reads (((wr.alloc (.cells #[.int .i64 t.bgn, .int .i64 t.com, .slice a0 t.reads.length q0, .slice a1 t.writes.length q1] 131))).drewN n) hB.1 ((R0.out.below liesI bwB).below liesI (below_drewNt _ _))
   have hcn2 := fun n => tables_spec a1 q1 t.writes (((wr.alloc (.cells #[.int .i64 t.bgn, .int .i64 t.com, .slice a0 t.reads.length q0, .slice a1 t.writes.length q1] 131))).drewN n) hB.2 ((R1.out.below liesI bwB).below liesI (below_drewNt _ _))
   by_cases hk0 : (0 : Int) < k
   .obtain ⟨ds, hE, hcell2⟩ := hgc (k - 1) (by omega)
    have HE : Hid (us[k - 1]? = some us[k - 1]) := List.getElem?_eq_getElem (by omega)
    generalize us[k - 1] = s at *
    obtain ⟨xv0, xv1, rfl, _, _⟩ := hE
    have d1 : wr.cell? ⟨g, o + (k - 1) * 4 + 1, none⟩ = some (.int .i64 s.com) := ct hbel hg (hcell2 1 (by omega))
    have hw : IntKind.i64.wrap ((k : Int) - 1) = ((k - 1 : Nat) : Int) := by simp only [IntKind.wrap_i64, wrap64]; omega
    have hk1 : ((k - 1 : Nat) : Int) < us.length := by omega
    have d1A := (bwB.cell (p := ⟨g, o + (k - 1) * 4 + 1, none⟩) (show g < wr.heap.size by omega)).trans d1
    have hgr : g < wr.heap.size := by omega
    clear hgc hva hcell2
    generalize hkp : k - 1 = kp at d1 d1A HE hw hk1
    by_cases h2 : t.com <= s.com
    .have HF := hid (HNo.out (fun h => by have := (h t HD.out).2.2.1 s (by omega) (by rw [hkp]; exact HE.out); omega))
     clear HST HNo HD HE hkp hcn1 hcn2
     go_wp2
     have g0 : decide (t.bgn < 0) = false := decide_eq_false (by omega)
     have g1 : decide (t.com <= t.bgn) = false := decide_eq_false (by omega)
     have g2 : decide ((0 : Int) < k) = true := decide_eq_true (by omega)
     have g2n : decide (0 < k) = true := decide_eq_true (by omega)
     have g3 : decide (t.com <= s.com) = true := decide_eq_true (by omega)
     go_quiet (fail)
     go_wp2
     go_ret
     exact ⟨rb_f HF.out, bwA.trans ((below_drewNt _ _).mono bwA.size)⟩
    have HV : Hid (tabP t.reads -> tabP t.writes -> ∀ j, j < k + 1 -> histAt us j) := hid (fun r z => HST.out (fun t' ht => by
     have := HD.out.symm.trans ht
     cases this
     exact ⟨by omega, by omega, fun s' _ hs => by rw [hkp, HE.out] at hs; cases hs; omega, r, z⟩))
    have HNR : Hid (¬ tabP t.reads -> ¬ histP us) := hid (fun r => HNo.out (fun h => r (h t HD.out).2.2.2.1))
    have HNW : Hid (¬ tabP t.writes -> ¬ histP us) := hid (fun r => HNo.out (fun h => r (h t HD.out).2.2.2.2))
    clear HST HNo HD HE hkp
    by_cases hR : tabP t.reads
    .have hq1 := fun n => rb_yes (hcn1 n) hR
     by_cases hW : tabP t.writes
     .have HVV := hid (HV.out hR hW)
      have hq2 := fun n => rb_yes (hcn2 n) hW
      clear HV HNR HNW hcn1 hcn2
      go_wp2
      have g0 : decide (t.bgn < 0) = false := decide_eq_false (by omega)
      have g1 : decide (t.com <= t.bgn) = false := decide_eq_false (by omega)
      have g2 : decide ((0 : Int) < k) = true := decide_eq_true (by omega)
      have g2n : decide (0 < k) = true := decide_eq_true (by omega)
      have g3 : decide (t.com <= s.com) = false := decide_eq_false (by omega)
      go_quiet ((go_at_call 94; first | with_reducible exact Calls.quiet_of_same (hq1 _) | with_reducible exact Calls.quiet_of_same (hq2 _)))
      go_wp2
      go_roundw
      case rel => exact ⟨k + 1, by omega, by go_num, HVV, bwA.trans ((below_drewNt _ _).mono bwA.size)⟩
      case measure => simp [intOf]; omega
     .have HF := hid (HNW.out hW)
      have hq2 := fun n => rb_no (hcn2 n) hW
      clear HV HNR HNW hcn1 hcn2
      go_wp2
      have g0 : decide (t.bgn < 0) = false := decide_eq_false (by omega)
      have g1 : decide (t.com <= t.bgn) = false := decide_eq_false (by omega)
      have g2 : decide ((0 : Int) < k) = true := decide_eq_true (by omega)
      have g2n : decide (0 < k) = true := decide_eq_true (by omega)
      have g3 : decide (t.com <= s.com) = false := decide_eq_false (by omega)
      go_quiet ((go_at_call 94; first | with_reducible exact Calls.quiet_of_same (hq1 _) | with_reducible exact Calls.quiet_of_same (hq2 _)))
      go_wp2
      go_ret
      exact ⟨rb_f HF.out, bwA.trans ((below_drewNt _ _).mono bwA.size)⟩
    .have HF := hid (HNR.out hR)
     have hq1 := fun n => rb_no (hcn1 n) hR
     clear HV HNR HNW hcn1 hcn2
     go_wp2
     have g0 : decide (t.bgn < 0) = false := decide_eq_false (by omega)
     have g1 : decide (t.com <= t.bgn) = false := decide_eq_false (by omega)
     have g2 : decide ((0 : Int) < k) = true := decide_eq_true (by omega)
     have g2n : decide (0 < k) = true := decide_eq_true (by omega)
     have g3 : decide (t.com <= s.com) = false := decide_eq_false (by omega)
     go_quiet ((go_at_call 94; exact Calls.quiet_of_same (hq1 _)))
     go_wp2
     go_ret
     exact ⟨rb_f HF.out, bwA.trans ((below_drewNt _ _).mono bwA.size)⟩
   .have HV : Hid (tabP t.reads -> tabP t.writes -> ∀ j, j < k + 1 -> histAt us j) := hid (fun r z => HST.out (fun t' ht => by
     have := HD.out.symm.trans ht
     cases this
     exact ⟨by omega, by omega, fun s' h _ => by omega, r, z⟩))
    have HNR : Hid (¬ tabP t.reads -> ¬ histP us) := hid (fun r => HNo.out (fun h => r (h t HD.out).2.2.2.1))
    have HNW : Hid (¬ tabP t.writes -> ¬ histP us) := hid (fun r => HNo.out (fun h => r (h t HD.out).2.2.2.2))
    clear HST HNo HD hgc hva
    by_cases hR : tabP t.reads
    .have hq1 := fun n => rb_yes (hcn1 n) hR
     by_cases hW : tabP t.writes
     .have HVV := hid (HV.out hR hW)
      have hq2 := fun n => rb_yes (hcn2 n) hW
      clear HV HNR HNW hcn1 hcn2
      go_wp2
      have g0 : decide (t.bgn < 0) = false := decide_eq_false (by omega)
      have g1 : decide (t.com <= t.bgn) = false := decide_eq_false (by omega)
      have g2 : decide ((0 : Int) < k) = false := decide_eq_false (by omega)
      have g2n : decide (0 < k) = false := decide_eq_false (by omega)
      go_quiet ((go_at_call 94; first | with_reducible exact Calls.quiet_of_same (hq1 _) | with_reducible exact Calls.quiet_of_same (hq2 _)))
      go_wp2
      go_roundw
      case rel => exact ⟨k + 1, by omega, by go_num, HVV, bwA.trans ((below_drewNt _ _).mono bwA.size)⟩
      case measure => simp [intOf]; omega
     .have HF := hid (HNW.out hW)
      have hq2 := fun n => rb_no (hcn2 n) hW
      clear HV HNR HNW hcn1 hcn2
      go_wp2
      have g0 : decide (t.bgn < 0) = false := decide_eq_false (by omega)
      have g1 : decide (t.com <= t.bgn) = false := decide_eq_false (by omega)
      have g2 : decide ((0 : Int) < k) = false := decide_eq_false (by omega)
      have g2n : decide (0 < k) = false := decide_eq_false (by omega)
      go_quiet ((go_at_call 94; first | with_reducible exact Calls.quiet_of_same (hq1 _) | with_reducible exact Calls.quiet_of_same (hq2 _)))
      go_wp2
      go_ret
      exact ⟨rb_f HF.out, bwA.trans ((below_drewNt _ _).mono bwA.size)⟩
    .have HF := hid (HNR.out hR)
     have hq1 := fun n => rb_no (hcn1 n) hR
     clear HV HNR HNW hcn1 hcn2
     go_wp2
     have g0 : decide (t.bgn < 0) = false := decide_eq_false (by omega)
     have g1 : decide (t.com <= t.bgn) = false := decide_eq_false (by omega)
     have g2 : decide ((0 : Int) < k) = false := decide_eq_false (by omega)
     have g2n : decide (0 < k) = false := decide_eq_false (by omega)
     go_quiet ((go_at_call 94; exact Calls.quiet_of_same (hq1 _)))
     go_wp2
     go_ret
     exact ⟨rb_f HF.out, bwA.trans ((below_drewNt _ _).mono bwA.size)⟩
  .have hkn : k = us.length := by omega
   subst hkn
   have hlti : ¬ (us.length : Int) < us.length := by omega
   have HT : Hid (histP us) := hid (⟨by omega, HO.out⟩)
   clear HO
   go_wp2
   go_ret
   exact ⟨rb_t HT.out, hbel⟩
theorem blkA2 (w : World) (c0 c1 : List Value) (t0 t1 : Nat) : Blk ((w.alloc (.cells c0.toArray t0)).alloc (.cells c1.toArray t1)) w.heap.size c0 := (blk_new w c0 t0).below (below_alloc _ _) (by simp)
theorem concurrent_impl (b c d e : Int) (r s x y : Value) (w : World) :
 Calls Tryz.prog 77 #[.agg #[.int .i64 b, .int .i64 c, r, s], .agg #[.int .i64 d, .int .i64 e, x, y]] w fun en w' => en = .returned (.bool (decide (b < e) && decide (d < c))) /\ Below w.heap.size w w' := by
 have bw : Below w.heap.size w ((w.alloc (.cells #[.int .i64 b, .int .i64 c, r, s] 89)).alloc (.cells #[.int .i64 d, .int .i64 e, x, y] 89)) := (below_alloc w _).alloc (by simp) _
 by_cases h1 : b < e
 .by_cases h2 : d < c
  .have HE : (decide (b < e) && decide (d < c)) = true := by simp [h1, h2]
   rw [HE]
   clear HE
   go_enter Tryz.func77, Tryz.ntmps77
   go_wp2
   go_ret
   exact ⟨rfl, bw⟩
  .have HE : (decide (b < e) && decide (d < c)) = false := by simp [h2]
   rw [HE]
   clear HE
   go_enter Tryz.func77, Tryz.ntmps77
   go_wp2
   go_ret
   exact ⟨rfl, bw⟩
 .have HE : (decide (b < e) && decide (d < c)) = false := by simp [h1]
  rw [HE]
  clear HE
  go_enter Tryz.func77, Tryz.ntmps77
  go_wp2
  go_ret
  exact ⟨rfl, bw⟩
theorem leadsTo_impl (b c d e : Int) (r s x y : Nat) (w : World) (hr : r < 4294967296) (hy : y < 4294967296) :
 Calls Tryz.prog 53 #[.agg #[.int .i64 b, .int .i64 c, .int .u64 (r : Int), .int .u64 (s : Int)], .agg #[.int .i64 d, .int .i64 e, .int .u64 (x : Int), .int .u64 (y : Int)]] w fun en w' => RB (c ≠ e /\ b < e /\ d < c /\ r &&& y ≠ 0) en /\ Below w.heap.size w w' := by
 have bw : Below w.heap.size w ((w.alloc (.cells #[.int .i64 b, .int .i64 c, .int .u64 (r : Int), .int .u64 (s : Int)] 89)).alloc (.cells #[.int .i64 d, .int .i64 e, .int .u64 (x : Int), .int .u64 (y : Int)] 89)) := (below_alloc w _).alloc (by simp) _
 have KA := hid (blkA2 w [.int .i64 b, .int .i64 c, .int .u64 (r : Int), .int .u64 (s : Int)] [.int .i64 d, .int .i64 e, .int .u64 (x : Int), .int .u64 (y : Int)] 89 89)
 have KB := hid (blkD w [.int .i64 b, .int .i64 c, .int .u64 (r : Int), .int .u64 (s : Int)] [.int .i64 d, .int .i64 e, .int .u64 (x : Int), .int .u64 (y : Int)] 89 89)
 by_cases h1 : c = e
 .have hd : (c != e) = false := by simpa using h1
  have HF : Hid (¬ (c ≠ e /\ b < e /\ d < c /\ r &&& y ≠ 0)) := hid (fun h => h.1 h1)
  clear h1 KA KB
  go_enter Tryz.func53, Tryz.ntmps53
  go_wp2
  go_ret
  exact ⟨rb_f HF.out, bw⟩
 .have hd : (c != e) = true := by simpa using h1
  cases hA : (decide (b < e) && decide (d < c)) with
  | false =>
    have HF : Hid (¬ (c ≠ e /\ b < e /\ d < c /\ r &&& y ≠ 0)) := hid (fun h => by simp [h.2.1, h.2.2.1] at hA)
    clear h1 KA KB
    go_enter Tryz.func53, Tryz.ntmps53
    go_wp2_with (go_at_call 77; fail)
    refine (concurrent_impl _ _ _ _ _ _ _ _ _).mono ?_
    rintro en w1 ⟨rfl, hb1⟩
    rw [hA]
    have bw1 := bw.trans (hb1.mono bw.size)
    clear hb1
    go_wp2
    go_ret
    exact ⟨rb_f HF.out, bw1⟩
  | true =>
    have hbits := bits_and_nat r y (by omega) (by omega)
    have HP : Hid ((c ≠ e /\ b < e /\ d < c /\ r &&& y ≠ 0) ↔ r &&& y ≠ 0) := hid (by simp at hA; exact ⟨fun h => h.2.2.2, fun h => ⟨h1, hA.1, hA.2, h⟩⟩)
    generalize hz : r &&& y = z at hbits HP
    clear h1 hz
    go_enter Tryz.func53, Tryz.ntmps53
    go_wp2_with (go_at_call 77; fail)
    refine (concurrent_impl _ _ _ _ _ _ _ _ _).mono ?_
    rintro en w1 ⟨rfl, hb1⟩
    rw [hA]
    have bw1 := bw.trans (hb1.mono bw.size)
    have k2 : w1.cell? ⟨w.heap.size, 2, none⟩ = some (.int .u64 (r : Int)) := ((KA.out.below hb1 (by simp; omega)) 2 (by simp)).1
    have k3 : w1.cell? ⟨w.heap.size + 1, 3, none⟩ = some (.int .u64 (y : Int)) := ((KB.out.below hb1 (by simp)) 3 (by simp)).1
    clear hb1 KA KB
    by_cases hz : z = 0
    .subst hz
     go_wp2
     go_ret
     refine ⟨?_, bw1⟩
     first | (rw [hbits]; exact rb_f (fun h => (HP.out.1 h) rfl)) | exact rb_f (fun h => (HP.out.1 h) rfl)
    .have hzb : ((z : Int) != 0) = true := by simp; omega
     go_wp2
     go_ret
     refine ⟨?_, bw1⟩
     first | exact rb_t (HP.out.2 hz) | (rw [hbits]; simp [hz]; exact rb_t (HP.out.2 hz))
theorem ahead_impl (b c d e : Int) (r s x y : Nat) (w : World) (hr : r < 4294967296) (hy : y < 4294967296) :
 Calls Tryz.prog 26 #[.agg #[.int .i64 b, .int .i64 c, .int .u64 (r : Int), .int .u64 (s : Int)], .agg #[.int .i64 d, .int .i64 e, .int .u64 (x : Int), .int .u64 (y : Int)]] w fun en w' => RB (c <= d \/ (c ≠ e /\ b < e /\ d < c /\ r &&& y ≠ 0)) en /\ Below w.heap.size w w' := by
 have bw : Below w.heap.size w ((w.alloc (.cells #[.int .i64 b, .int .i64 c, .int .u64 (r : Int), .int .u64 (s : Int)] 89)).alloc (.cells #[.int .i64 d, .int .i64 e, .int .u64 (x : Int), .int .u64 (y : Int)] 89)) := (below_alloc w _).alloc (by simp) _
 by_cases h1 : c <= d
 .have HT : Hid (c <= d \/ (c ≠ e /\ b < e /\ d < c /\ r &&& y ≠ 0)) := .inl h1
  go_enter Tryz.func26, Tryz.ntmps26
  go_wp2
  go_ret
  exact ⟨rb_t HT.out, bw⟩
 .have HP : Hid ((c <= d \/ (c ≠ e /\ b < e /\ d < c /\ r &&& y ≠ 0)) ↔ (c ≠ e /\ b < e /\ d < c /\ r &&& y ≠ 0)) := hid (⟨fun h => h.elim (fun z => absurd z h1) id, .inr⟩)
  go_enter Tryz.func26, Tryz.ntmps26
  go_wp2_with (go_at_call 53; fail)
  refine (leadsTo_impl _ _ _ _ _ _ _ _ _ hr hy).mono ?_
  rintro en w1 ⟨⟨q, rfl, hq⟩, hb1⟩
  have bw1 := bw.trans (hb1.mono bw.size)
  have HR : Hid (RB (c <= d \/ (c ≠ e /\ b < e /\ d < c /\ r &&& y ≠ 0)) (.returned (.bool q))) := ⟨q, rfl, hq.trans HP.out.symm⟩
  clear hb1 hq HP
  go_wp2
  go_ret
  exact ⟨HR.out, bw1⟩
def dealV (t : TI) : List Value := [.int .i64 t.bgn, .int .i64 t.com, .int .u64 (bitsOf t.reads : Nat), .int .u64 (bitsOf t.writes : Nat)]
def CDl (B : Nat) (w : World) (cs : List Value) (t : TI) : Prop := cs = dealV t /\ tabP t.reads /\ tabP t.writes
theorem liesD : Lies 4 CDl := ⟨fun h => by rw [h.1]; rfl, fun h _ => h, fun h _ => h, fun h _ => h⟩
theorem tab_bits {xs : List Int} (h : tabP xs) : bitsOf xs < 4294967296 := bitsOf_lt (tab_of h.2)
theorem tab_meet {xs ys : List Int} (h : tabP xs) (g : tabP ys) : bitsOf xs &&& bitsOf ys ≠ 0 ↔ meetP xs ys := bits_meet (tab_of h.2) (tab_of g.2)
structure Cel where
 tb : Int
 ky : Int
 vl : Int
 gn : Bool
def celV (c : Cel) : List Value := [.int .i64 c.tb, .int .i64 c.ky, .int .i64 c.vl, .bool c.gn]
def CC (B : Nat) (w : World) (cs : List Value) (c : Cel) : Prop := cs = celV c
theorem liesC : Lies 4 CC := ⟨fun h => by rw [h]; rfl, fun h _ => h, fun h _ => h, fun h _ => h⟩
theorem oneC : ∀ {B : Nat} {w : World} {cs : List Value} {x : Cel}, CC B w cs x -> ∀ u ∈ cs, u.oneCell' = true := fun h u hu => by
 rw [h] at hu
 unfold celV at hu
 simp at hu
 rcases hu with rfl | rfl | rfl | rfl <;> rfl
theorem cel_at {B : Nat} {w : World} {a : Option Addr} {n c : Nat} {us : List Cel} (h : RS 4 CC B w (.slice a n c) us) (hp : 0 < us.length) : ∃ g o, a = some ⟨g, o, none⟩ /\ B <= g /\ g < w.heap.size /\ ∀ j (hj : j < us.length), w.cell? ⟨g, o + j * 4, none⟩ = some (.int .i64 us[j].tb) /\ w.cell? ⟨g, o + j * 4 + 1, none⟩ = some (.int .i64 us[j].ky) /\ w.cell? ⟨g, o + j * 4 + 2, none⟩ = some (.int .i64 us[j].vl) /\ w.cell? ⟨g, o + j * 4 + 3, none⟩ = some (.bool us[j].gn) := by
 obtain ⟨a', c', he, hh⟩ := h
 obtain ⟨g, o, e2, h1, h2, h3⟩ := hh hp
 simp only [Value.slice.injEq] at he
 refine ⟨g, o, he.1.trans e2, h1, h2, fun j hj => ?_⟩
 obtain ⟨cs, hc, hcell⟩ := h3 j hj
 cases hc
 exact ⟨hcell 0 (by omega), hcell 1 (by omega), hcell 2 (by omega), hcell 3 (by omega)⟩
def hits (tb ky : Int) (c : Cel) : Bool := c.tb == tb && c.ky == ky
def newC (cs : List Cel) (tb ky : Int) : Option Cel := (cs.filter (hits tb ky)).getLast?
theorem newC_hit {cs : List Cel} {tb ky : Int} {k : Nat} (hk : k < cs.length) (hh : hits tb ky cs[k] = true) (hn : ∀ c ∈ cs.drop (k + 1), hits tb ky c = false) : newC cs tb ky = some cs[k] := by
 have e : cs = cs.take k ++ cs[k] :: cs.drop (k + 1) := by
  rw [List.getElem_cons_drop, List.take_append_drop]
 have h2 : (cs.drop (k + 1)).filter (hits tb ky) = [] := List.filter_eq_nil_iff.2 (fun c hc => by rw [hn c hc]; simp)
 unfold newC
 have e3 : cs.filter (hits tb ky) = (cs.take k).filter (hits tb ky) ++ [cs[k]] := by
  conv => lhs; rw [e]
  rw [List.filter_append, List.filter_cons, hh, h2]
  simp
 rw [e3]
 simp
theorem newC_none {cs : List Cel} {tb ky : Int} (hn : ∀ c ∈ cs, hits tb ky c = false) : newC cs tb ky = none := by
 unfold newC
 rw [List.filter_eq_nil_iff.2 (fun c hc => by rw [hn c hc]; simp)]
 rfl
theorem drop_step {α : Type} {xs : List α} {P : α -> Prop} {k : Nat} (hlt : k < xs.length) (h : ∀ x ∈ xs.drop (k + 1), P x) (z : P xs[k]) : ∀ x ∈ xs.drop k, P x := fun t ht => by
 rw [<- List.getElem_cons_drop hlt] at ht
 rcases List.mem_cons.1 ht with rfl | h'
 .exact z
 .exact h t h'
def celA : Option Cel -> Value
 | some c => .agg #[.int .i64 c.tb, .int .i64 c.ky, .int .i64 c.vl, .bool c.gn]
 | none => .agg #[.int .i64 0, .int .i64 0, .int .i64 0, .bool false]
theorem newest_spec (a : Option Addr) (ca : Nat) (cs : List Cel) (tb ky : Int) (w : World) (hn : cs.length <= 1048576) (ha : RS 4 CC 0 w (.slice a cs.length ca) cs) :
 Calls Tryz.prog 57 #[.slice a cs.length ca, .int .i64 tb, .int .i64 ky] w fun e w' => e = .returned (.tuple #[celA (newC cs tb ky), .bool (newC cs tb ky).isSome]) /\ Below w.heap.size w w' := by
 have HR := hid ha
 clear ha
 have hw0 : IntKind.i64.wrap ((cs.length : Int) - 1) = (cs.length : Int) - 1 := by simp only [IntKind.wrap_i64, wrap64]; omega
 go_enter Tryz.func57, Tryz.ntmps57
 go_wp2
 go_loopw [8] (fun iv wr => ∃ k : Nat, k <= cs.length /\ iv = .int .i64 ((k : Int) - 1) /\ Hid (∀ c ∈ cs.drop k, hits tb ky c = false) /\ wr = w.alloc (.cells #[.int .i64 0, .int .i64 0, .int .i64 0, .bool false] 106)) (fun iv _ => ((intOf iv) + 1).toNat)
 case atStart => exact ⟨cs.length, Nat.le_refl _, rfl, (fun c h => by simp at h : ∀ c ∈ cs.drop cs.length, hits tb ky c = false), rfl⟩
 case round =>
  obtain ⟨k, hk, rfl, HO, rfl⟩ := hrel
  by_cases hlt : 0 < k
  .obtain ⟨j, rfl⟩ : ∃ j, k = j + 1 := ⟨k - 1, by omega⟩
   have hjl : j < cs.length := by omega
   have hji : (j : Int) < cs.length := by omega
   have hcast : ((j + 1 : Nat) : Int) - 1 = (j : Int) := by omega
   rw [hcast]
   obtain ⟨g, o, rfl, _, hg, hgc⟩ := cel_at HR.out (by omega)
   obtain ⟨c0, c1, c2, c3⟩ := hgc j hjl
   have HST := hid (fun z => drop_step (P := fun c => hits tb ky c = false) hjl HO.out z)
   have HHT := hid (fun z => newC_hit hjl z HO.out)
   have hw1 : IntKind.i64.wrap ((j : Int) - 1) = (j : Int) - 1 := by simp only [IntKind.wrap_i64, wrap64]; omega
   clear hgc HO
   generalize cs[j] = c at c0 c1 c2 c3 HST HHT
   obtain ⟨ct, ck, cv, cg⟩ := c
   simp only at c0 c1 c2 c3
   by_cases h1 : ct = tb
   .by_cases h2 : ck = ky
    .have HF := hid (HHT.out (by simp [hits, h1, h2]))
     have b1 : (ct == tb) = true := by simpa using h1
     have b2 : (ck == ky) = true := by simpa using h2
     clear HST HHT h1 h2
     go_wp2
     refine bodyPost_ret (v := .tuple #[.agg #[.int .i64 ct, .int .i64 ck, .int .i64 cv, .bool cg], .bool true]) (by simp [results, Tryz.results57, go_sem]) rfl ⟨by rw [HF.out]; rfl, ?_⟩
     exact below_alloc _ _
    .have HV := hid (HST.out (by simp [hits, h2]))
     have b1 : (ct == tb) = true := by simpa using h1
     have b2 : (ck == ky) = false := by simpa using h2
     clear HST HHT h1 h2
     go_wp2
     go_roundw
     case rel => exact ⟨j, by omega, by first | rfl | go_num, HV, by first | rfl | trivial⟩
     case measure => simp [intOf]
   .have HV := hid (HST.out (by simp [hits, h1]))
    have b1 : (ct == tb) = false := by simpa using h1
    clear HST HHT h1
    go_wp2
    go_roundw
    case rel => exact ⟨j, by omega, by first | rfl | go_num, HV, by first | rfl | trivial⟩
    case measure => simp [intOf]
  .have hk0 : k = 0 := by omega
   subst hk0
   have HF := hid (newC_none (cs := cs) (tb := tb) (ky := ky) (by simpa using HO.out))
   clear HO
   go_wp2
   refine bodyPost_ret (v := .tuple #[.agg #[.int .i64 0, .int .i64 0, .int .i64 0, .bool false], .bool false]) (by simp [results, Tryz.results57, go_sem]) rfl ⟨by rw [HF.out]; rfl, ?_⟩
   exact below_alloc _ _
end Go.Proofs.YtblkgicbimflhaaGreat
