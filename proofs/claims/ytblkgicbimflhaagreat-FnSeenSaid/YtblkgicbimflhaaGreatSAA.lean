import Derived.Test.YtblkgicbimflhaaGreatProg
import Derived.WalkKit
import Derived.ProofKit
import Derived.OpenShut
import Derived.WalkLawsBesides
import Derived.Deep.Light
import Derived.WalkSpells
import Derived.OwnWalk
import Derived.Deep.QuietTactic
import Derived.BigQuiet
import Derived.Deep.RegionWith
namespace Go.Proofs.YtblkgicbimflhaaGreat
open Go.ChangeShapes Go.WideShapes Go.ChangeAt Go.RowKit
set_option linter.unusedVariables false
set_option linter.unusedSimpArgs false
set_option maxRecDepth 100000
set_option maxHeartbeats 16000000
theorem hid {p : Prop} (h : p) : Hid p := h
theorem below_alloc (w : World) (o : Obj) : Below w.heap.size w (w.alloc o) := (Below.refl _ w).alloc (Nat.le_refl _) o
theorem undrew {W w' : World} (hb : Below W.drew.heap.size W.drew w') : Below W.heap.size W w' := (Below.refl W.heap.size W).drew.trans hb
theorem below_drewNt (w : World) : ∀ n, Below w.heap.size w (w.drewN n)
 | 0 => Below.refl _ _
 | n + 1 => (below_drewNt w n).drew
theorem own_cell {w : World} {b e s g n c : Nat} {xs : List Value} {u : Value} {j : Nat} (h : w.ownsRow b e s (.slice (some ⟨g, 0, none⟩) n c) n xs) (hj : xs[j]? = some u) : w.cell? ⟨g, j, none⟩ = some u := by
 have := h.cells rfl j u hj
 by_cases hz : j = 0
 .subst hz; simpa [Addr.add] using this
 .simpa [Addr.add, hz] using this
theorem own_below {w w' : World} {b e k n : Nat} {v : Value} {xs : List Value} (h : w.ownsRow b e k v n xs) (hb : Below w.heap.size w w') : w'.ownsRow b e k v n xs := by
 have hl := h.lt
 obtain ⟨h1, h2⟩ := h
 refine ⟨h1, ?_⟩
 rcases h2 with h2 | ⟨g, cap, cur, rfl, hg1, hg2, hg3⟩
 .exact .inl h2
 .exact .inr ⟨g, cap, cur, rfl, hg1, (hb.block g (hl g rfl).2).trans hg2, hg3⟩
structure Lies {α : Type} (k : Nat) (C : Nat -> World -> List Value -> α -> Prop) : Prop where
 len : ∀ {B w cs x}, C B w cs x -> cs.length = k
 mono : ∀ {B D w cs x}, C B w cs x -> D <= B -> C D w cs x
 below : ∀ {B w w' cs x}, C B w cs x -> Below w.heap.size w w' -> C B w' cs x
 set : ∀ {B w cs x} {c j : Nat} {u : Value}, C B w cs x -> c < B -> C B (w.setCell ⟨c, j, none⟩ u) cs x
def RS {α : Type} (k : Nat) (C : Nat -> World -> List Value -> α -> Prop) (B : Nat) (w : World) (v : Value) (xs : List α) : Prop :=
 ∃ a cap, v = .slice a xs.length cap /\ (0 < xs.length -> ∃ g o, a = some ⟨g, o, none⟩ /\ B <= g /\ g < w.heap.size /\ ∀ i (h : i < xs.length), ∃ cs, C B w cs xs[i] /\ ∀ j, j < k -> w.cell? ⟨g, o + i * k + j, none⟩ = cs[j]?)
theorem RS.mono {α : Type} {k : Nat} {C : Nat -> World -> List Value -> α -> Prop} (hC : Lies k C) {B D : Nat} {w : World} {v : Value} {xs : List α} (h : RS k C B w v xs) (hd : D <= B) : RS k C D w v xs := by
 obtain ⟨a, cap, rfl, h2⟩ := h
 refine ⟨a, cap, rfl, fun hp => ?_⟩
 obtain ⟨g, o, ha, hB, hg, hc⟩ := h2 hp
 exact ⟨g, o, ha, Nat.le_trans hd hB, hg, fun i hi => let ⟨cs, a, b⟩ := hc i hi; ⟨cs, hC.mono a hd, b⟩⟩
theorem RS.below {α : Type} {k : Nat} {C : Nat -> World -> List Value -> α -> Prop} (hC : Lies k C) {B : Nat} {w w' : World} {v : Value} {xs : List α} (h : RS k C B w v xs) (hb : Below w.heap.size w w') : RS k C B w' v xs := by
 obtain ⟨a, cap, rfl, h2⟩ := h
 refine ⟨a, cap, rfl, fun hp => ?_⟩
 obtain ⟨g, o, ha, hB, hg, hc⟩ := h2 hp
 exact ⟨g, o, ha, hB, Nat.lt_of_lt_of_le hg hb.size, fun i hi => let ⟨cs, a, b⟩ := hc i hi; ⟨cs, hC.below a hb, fun j hj => (hb.cell (p := ⟨g, o + i * k + j, none⟩) hg).trans (b j hj)⟩⟩
theorem RS.set {α : Type} {k : Nat} {C : Nat -> World -> List Value -> α -> Prop} (hC : Lies k C) {B c j : Nat} {w : World} {v u : Value} {xs : List α} (h : RS k C B w v xs) (hc : c < B) : RS k C B (w.setCell ⟨c, j, none⟩ u) v xs := by
 obtain ⟨a, cap, rfl, h2⟩ := h
 refine ⟨a, cap, rfl, fun hp => ?_⟩
 obtain ⟨g, o, ha, hB, hg, hc'⟩ := h2 hp
 refine ⟨g, o, ha, hB, by simpa using hg, fun i hi => ?_⟩
 obtain ⟨cs, a, b⟩ := hc' i hi
 refine ⟨cs, hC.set a hc, fun l hl => ?_⟩
 rw [World.cell?_setCell_other w ⟨c, j, none⟩ ⟨g, o + i * k + l, none⟩ u (fun e => by cases e; omega)]
 exact b l hl
def CI (B : Nat) (w : World) (cs : List Value) (x : Int) : Prop := cs = [.int .i64 x]
theorem liesI : Lies 1 CI := ⟨fun h => by rw [h]; rfl, fun h _ => h, fun h _ => h, fun h _ => h⟩
def setL : List Value -> Nat -> List Value -> List Value
 | xs, _, [] => xs
 | xs, o, c :: cs => setL (xs.set o c) (o + 1) cs
def setW (w : World) (g : Nat) : Nat -> List Value -> World
 | _, [] => w
 | o, c :: cs => setW (w.setCell ⟨g, o, none⟩ c) g (o + 1) cs
theorem below_setW {B g : Nat} {a : World} (hg : B <= g) : ∀ (cs : List Value) (o : Nat) (w : World), Below B a w -> Below B a (setW w g o cs)
 | [], _, _, h => h
 | c :: cs, o, w, h => below_setW hg cs _ _ (h.setCell hg _)
def Fill {α : Type} (K : Nat) (C : Nat -> World -> List Value -> α -> Prop) (B : Nat) (us : List α) (k : Nat) (xs : List Value) (w : World) : Prop := xs.length = us.length * K /\ ∀ i (h : i < us.length), i < k -> ∃ cs, C B w cs us[i] /\ ∀ j, j < K -> xs[i * K + j]? = cs[j]?
theorem mul_le {i k K : Nat} (h : i < k) : i * K + K <= k * K := by
 have := Nat.mul_le_mul_right K (show i + 1 <= k by omega)
 rw [Nat.succ_mul] at this
 exact this
def Blk (w : World) (b : Nat) (cs : List Value) : Prop := ∀ j, j < cs.length -> w.cell? ⟨b, j, none⟩ = cs[j]? /\ w.frozen? ⟨b, j, none⟩ = false
theorem Blk.below {w w' : World} {b : Nat} {cs : List Value} (h : Blk w b cs) (hb : Below w.heap.size w w') (hl : b < w.heap.size) : Blk w' b cs := fun j hj => ⟨(hb.cell (p := ⟨b, j, none⟩) hl).trans (h j hj).1, (hb.frozen (p := ⟨b, j, none⟩) hl).trans (h j hj).2⟩
theorem bl {p : Prop} (h : p := by (go_light; repeat (first | with_reducible assumption | with_reducible exact Below.refl _ _ | (with_reducible refine Below.setCell ?_ ?_ _; rotate_left; (focus first | (simp; done) | (simp; omega) | omega)) | (with_reducible refine Below.alloc ?_ ?_ _; rotate_left; (focus first | (simp; done) | (simp; omega) | omega)) | with_reducible refine Below.drew ?_))) : p := h
theorem q1 {α : Type} (l : List α) (i : Nat) (a : α) : l.toArray.setIfInBounds i a = (l.set i a).toArray := List.setIfInBounds_toArray ..
theorem q2 {α : Type} (a b : α) (l : List α) : (a :: l).set 0 b = b :: l := rfl
theorem q3 {α : Type} (a b : α) (l : List α) (n : Nat) : (a :: l).set (n + 1) b = a :: l.set n b := rfl
theorem kj {w : World} {b o : Nat} {cs : List Value} {x y : Value} (h : Blk w b cs) (h1 : o < cs.length) (h2 : o + 1 < cs.length) (hx : cs[o]? = some x) (hy : cs[o + 1]? = some y) : w.cell? ⟨b, o, none⟩ = some x /\ w.cell? ⟨b, o + 1, none⟩ = some y /\ w.frozen? ⟨b, o, none⟩ = false /\ w.frozen? ⟨b, o + 1, none⟩ = false := ⟨(h o h1).1.trans hx, (h (o + 1) h2).1.trans hy, (h o h1).2, (h (o + 1) h2).2⟩
theorem ct {B : Nat} {w w' : World} {g o : Nat} {v : Value} (h : Below B w w') (hg : g < B) (hc : w.cell? ⟨g, o, none⟩ = some v) : w'.cell? ⟨g, o, none⟩ = some v := (h.cell (p := ⟨g, o, none⟩) hg).trans hc
theorem kb0 {w : World} {b : Nat} {a0 : Value} {r : List Value} (h : Blk w b (a0 :: r)) : w.cell? ⟨b, 0, none⟩ = some a0 /\ w.frozen? ⟨b, 0, none⟩ = false := h 0 (by simp)
theorem kb1 {w : World} {b : Nat} {a0 a1 : Value} {r : List Value} (h : Blk w b (a0 :: a1 :: r)) : (w.cell? ⟨b, 0, none⟩ = some a0 /\ w.frozen? ⟨b, 0, none⟩ = false) /\ (w.cell? ⟨b, 1, none⟩ = some a1 /\ w.frozen? ⟨b, 1, none⟩ = false) := ⟨h 0 (by simp), h 1 (by simp)⟩
theorem kc1 {w : World} {b : Nat} {a0 a1 : Value} {r : List Value} (h : Blk w b (a0 :: a1 :: r)) : w.cell? ⟨b, 0, none⟩ = some a0 /\ w.cell? ⟨b, 1, none⟩ = some a1 := ⟨(h 0 (by simp)).1, (h 1 (by simp)).1⟩
theorem kf1 {w : World} {b : Nat} {a0 a1 : Value} {r : List Value} (h : Blk w b (a0 :: a1 :: r)) : w.frozen? ⟨b, 0, none⟩ = false /\ w.frozen? ⟨b, 1, none⟩ = false := ⟨(h 0 (by simp)).2, (h 1 (by simp)).2⟩
theorem kb2 {w : World} {b : Nat} {a0 a1 a2 : Value} {r : List Value} (h : Blk w b (a0 :: a1 :: a2 :: r)) : (w.cell? ⟨b, 0, none⟩ = some a0 /\ w.frozen? ⟨b, 0, none⟩ = false) /\ (w.cell? ⟨b, 1, none⟩ = some a1 /\ w.frozen? ⟨b, 1, none⟩ = false) /\ (w.cell? ⟨b, 2, none⟩ = some a2 /\ w.frozen? ⟨b, 2, none⟩ = false) := ⟨h 0 (by simp), h 1 (by simp), h 2 (by simp)⟩
theorem kc2 {w : World} {b : Nat} {a0 a1 a2 : Value} {r : List Value} (h : Blk w b (a0 :: a1 :: a2 :: r)) : w.cell? ⟨b, 0, none⟩ = some a0 /\ w.cell? ⟨b, 1, none⟩ = some a1 /\ w.cell? ⟨b, 2, none⟩ = some a2 := ⟨(h 0 (by simp)).1, (h 1 (by simp)).1, (h 2 (by simp)).1⟩
theorem kf2 {w : World} {b : Nat} {a0 a1 a2 : Value} {r : List Value} (h : Blk w b (a0 :: a1 :: a2 :: r)) : w.frozen? ⟨b, 0, none⟩ = false /\ w.frozen? ⟨b, 1, none⟩ = false /\ w.frozen? ⟨b, 2, none⟩ = false := ⟨(h 0 (by simp)).2, (h 1 (by simp)).2, (h 2 (by simp)).2⟩
theorem kb3 {w : World} {b : Nat} {a0 a1 a2 a3 : Value} {r : List Value} (h : Blk w b (a0 :: a1 :: a2 :: a3 :: r)) : (w.cell? ⟨b, 0, none⟩ = some a0 /\ w.frozen? ⟨b, 0, none⟩ = false) /\ (w.cell? ⟨b, 1, none⟩ = some a1 /\ w.frozen? ⟨b, 1, none⟩ = false) /\ (w.cell? ⟨b, 2, none⟩ = some a2 /\ w.frozen? ⟨b, 2, none⟩ = false) /\ (w.cell? ⟨b, 3, none⟩ = some a3 /\ w.frozen? ⟨b, 3, none⟩ = false) := ⟨h 0 (by simp), h 1 (by simp), h 2 (by simp), h 3 (by simp)⟩
theorem kc3 {w : World} {b : Nat} {a0 a1 a2 a3 : Value} {r : List Value} (h : Blk w b (a0 :: a1 :: a2 :: a3 :: r)) : w.cell? ⟨b, 0, none⟩ = some a0 /\ w.cell? ⟨b, 1, none⟩ = some a1 /\ w.cell? ⟨b, 2, none⟩ = some a2 /\ w.cell? ⟨b, 3, none⟩ = some a3 := ⟨(h 0 (by simp)).1, (h 1 (by simp)).1, (h 2 (by simp)).1, (h 3 (by simp)).1⟩
theorem kf3 {w : World} {b : Nat} {a0 a1 a2 a3 : Value} {r : List Value} (h : Blk w b (a0 :: a1 :: a2 :: a3 :: r)) : w.frozen? ⟨b, 0, none⟩ = false /\ w.frozen? ⟨b, 1, none⟩ = false /\ w.frozen? ⟨b, 2, none⟩ = false /\ w.frozen? ⟨b, 3, none⟩ = false := ⟨(h 0 (by simp)).2, (h 1 (by simp)).2, (h 2 (by simp)).2, (h 3 (by simp)).2⟩
theorem kb4 {w : World} {b : Nat} {a0 a1 a2 a3 a4 : Value} {r : List Value} (h : Blk w b (a0 :: a1 :: a2 :: a3 :: a4 :: r)) : (w.cell? ⟨b, 0, none⟩ = some a0 /\ w.frozen? ⟨b, 0, none⟩ = false) /\ (w.cell? ⟨b, 1, none⟩ = some a1 /\ w.frozen? ⟨b, 1, none⟩ = false) /\ (w.cell? ⟨b, 2, none⟩ = some a2 /\ w.frozen? ⟨b, 2, none⟩ = false) /\ (w.cell? ⟨b, 3, none⟩ = some a3 /\ w.frozen? ⟨b, 3, none⟩ = false) /\ (w.cell? ⟨b, 4, none⟩ = some a4 /\ w.frozen? ⟨b, 4, none⟩ = false) := ⟨h 0 (by simp), h 1 (by simp), h 2 (by simp), h 3 (by simp), h 4 (by simp)⟩
theorem kc4 {w : World} {b : Nat} {a0 a1 a2 a3 a4 : Value} {r : List Value} (h : Blk w b (a0 :: a1 :: a2 :: a3 :: a4 :: r)) : w.cell? ⟨b, 0, none⟩ = some a0 /\ w.cell? ⟨b, 1, none⟩ = some a1 /\ w.cell? ⟨b, 2, none⟩ = some a2 /\ w.cell? ⟨b, 3, none⟩ = some a3 /\ w.cell? ⟨b, 4, none⟩ = some a4 := ⟨(h 0 (by simp)).1, (h 1 (by simp)).1, (h 2 (by simp)).1, (h 3 (by simp)).1, (h 4 (by simp)).1⟩
theorem kf4 {w : World} {b : Nat} {a0 a1 a2 a3 a4 : Value} {r : List Value} (h : Blk w b (a0 :: a1 :: a2 :: a3 :: a4 :: r)) : w.frozen? ⟨b, 0, none⟩ = false /\ w.frozen? ⟨b, 1, none⟩ = false /\ w.frozen? ⟨b, 2, none⟩ = false /\ w.frozen? ⟨b, 3, none⟩ = false /\ w.frozen? ⟨b, 4, none⟩ = false := ⟨(h 0 (by simp)).2, (h 1 (by simp)).2, (h 2 (by simp)).2, (h 3 (by simp)).2, (h 4 (by simp)).2⟩
theorem kb5 {w : World} {b : Nat} {a0 a1 a2 a3 a4 a5 : Value} {r : List Value} (h : Blk w b (a0 :: a1 :: a2 :: a3 :: a4 :: a5 :: r)) : (w.cell? ⟨b, 0, none⟩ = some a0 /\ w.frozen? ⟨b, 0, none⟩ = false) /\ (w.cell? ⟨b, 1, none⟩ = some a1 /\ w.frozen? ⟨b, 1, none⟩ = false) /\ (w.cell? ⟨b, 2, none⟩ = some a2 /\ w.frozen? ⟨b, 2, none⟩ = false) /\ (w.cell? ⟨b, 3, none⟩ = some a3 /\ w.frozen? ⟨b, 3, none⟩ = false) /\ (w.cell? ⟨b, 4, none⟩ = some a4 /\ w.frozen? ⟨b, 4, none⟩ = false) /\ (w.cell? ⟨b, 5, none⟩ = some a5 /\ w.frozen? ⟨b, 5, none⟩ = false) := ⟨h 0 (by simp), h 1 (by simp), h 2 (by simp), h 3 (by simp), h 4 (by simp), h 5 (by simp)⟩
theorem kc5 {w : World} {b : Nat} {a0 a1 a2 a3 a4 a5 : Value} {r : List Value} (h : Blk w b (a0 :: a1 :: a2 :: a3 :: a4 :: a5 :: r)) : w.cell? ⟨b, 0, none⟩ = some a0 /\ w.cell? ⟨b, 1, none⟩ = some a1 /\ w.cell? ⟨b, 2, none⟩ = some a2 /\ w.cell? ⟨b, 3, none⟩ = some a3 /\ w.cell? ⟨b, 4, none⟩ = some a4 /\ w.cell? ⟨b, 5, none⟩ = some a5 := ⟨(h 0 (by simp)).1, (h 1 (by simp)).1, (h 2 (by simp)).1, (h 3 (by simp)).1, (h 4 (by simp)).1, (h 5 (by simp)).1⟩
theorem kf5 {w : World} {b : Nat} {a0 a1 a2 a3 a4 a5 : Value} {r : List Value} (h : Blk w b (a0 :: a1 :: a2 :: a3 :: a4 :: a5 :: r)) : w.frozen? ⟨b, 0, none⟩ = false /\ w.frozen? ⟨b, 1, none⟩ = false /\ w.frozen? ⟨b, 2, none⟩ = false /\ w.frozen? ⟨b, 3, none⟩ = false /\ w.frozen? ⟨b, 4, none⟩ = false /\ w.frozen? ⟨b, 5, none⟩ = false := ⟨(h 0 (by simp)).2, (h 1 (by simp)).2, (h 2 (by simp)).2, (h 3 (by simp)).2, (h 4 (by simp)).2, (h 5 (by simp)).2⟩
theorem kb6 {w : World} {b : Nat} {a0 a1 a2 a3 a4 a5 a6 : Value} {r : List Value} (h : Blk w b (a0 :: a1 :: a2 :: a3 :: a4 :: a5 :: a6 :: r)) : (w.cell? ⟨b, 0, none⟩ = some a0 /\ w.frozen? ⟨b, 0, none⟩ = false) /\ (w.cell? ⟨b, 1, none⟩ = some a1 /\ w.frozen? ⟨b, 1, none⟩ = false) /\ (w.cell? ⟨b, 2, none⟩ = some a2 /\ w.frozen? ⟨b, 2, none⟩ = false) /\ (w.cell? ⟨b, 3, none⟩ = some a3 /\ w.frozen? ⟨b, 3, none⟩ = false) /\ (w.cell? ⟨b, 4, none⟩ = some a4 /\ w.frozen? ⟨b, 4, none⟩ = false) /\ (w.cell? ⟨b, 5, none⟩ = some a5 /\ w.frozen? ⟨b, 5, none⟩ = false) /\ (w.cell? ⟨b, 6, none⟩ = some a6 /\ w.frozen? ⟨b, 6, none⟩ = false) := ⟨h 0 (by simp), h 1 (by simp), h 2 (by simp), h 3 (by simp), h 4 (by simp), h 5 (by simp), h 6 (by simp)⟩
theorem kc6 {w : World} {b : Nat} {a0 a1 a2 a3 a4 a5 a6 : Value} {r : List Value} (h : Blk w b (a0 :: a1 :: a2 :: a3 :: a4 :: a5 :: a6 :: r)) : w.cell? ⟨b, 0, none⟩ = some a0 /\ w.cell? ⟨b, 1, none⟩ = some a1 /\ w.cell? ⟨b, 2, none⟩ = some a2 /\ w.cell? ⟨b, 3, none⟩ = some a3 /\ w.cell? ⟨b, 4, none⟩ = some a4 /\ w.cell? ⟨b, 5, none⟩ = some a5 /\ w.cell? ⟨b, 6, none⟩ = some a6 := ⟨(h 0 (by simp)).1, (h 1 (by simp)).1, (h 2 (by simp)).1, (h 3 (by simp)).1, (h 4 (by simp)).1, (h 5 (by simp)).1, (h 6 (by simp)).1⟩
theorem kf6 {w : World} {b : Nat} {a0 a1 a2 a3 a4 a5 a6 : Value} {r : List Value} (h : Blk w b (a0 :: a1 :: a2 :: a3 :: a4 :: a5 :: a6 :: r)) : w.frozen? ⟨b, 0, none⟩ = false /\ w.frozen? ⟨b, 1, none⟩ = false /\ w.frozen? ⟨b, 2, none⟩ = false /\ w.frozen? ⟨b, 3, none⟩ = false /\ w.frozen? ⟨b, 4, none⟩ = false /\ w.frozen? ⟨b, 5, none⟩ = false /\ w.frozen? ⟨b, 6, none⟩ = false := ⟨(h 0 (by simp)).2, (h 1 (by simp)).2, (h 2 (by simp)).2, (h 3 (by simp)).2, (h 4 (by simp)).2, (h 5 (by simp)).2, (h 6 (by simp)).2⟩
theorem kb7 {w : World} {b : Nat} {a0 a1 a2 a3 a4 a5 a6 a7 : Value} {r : List Value} (h : Blk w b (a0 :: a1 :: a2 :: a3 :: a4 :: a5 :: a6 :: a7 :: r)) : (w.cell? ⟨b, 0, none⟩ = some a0 /\ w.frozen? ⟨b, 0, none⟩ = false) /\ (w.cell? ⟨b, 1, none⟩ = some a1 /\ w.frozen? ⟨b, 1, none⟩ = false) /\ (w.cell? ⟨b, 2, none⟩ = some a2 /\ w.frozen? ⟨b, 2, none⟩ = false) /\ (w.cell? ⟨b, 3, none⟩ = some a3 /\ w.frozen? ⟨b, 3, none⟩ = false) /\ (w.cell? ⟨b, 4, none⟩ = some a4 /\ w.frozen? ⟨b, 4, none⟩ = false) /\ (w.cell? ⟨b, 5, none⟩ = some a5 /\ w.frozen? ⟨b, 5, none⟩ = false) /\ (w.cell? ⟨b, 6, none⟩ = some a6 /\ w.frozen? ⟨b, 6, none⟩ = false) /\ (w.cell? ⟨b, 7, none⟩ = some a7 /\ w.frozen? ⟨b, 7, none⟩ = false) := ⟨h 0 (by simp), h 1 (by simp), h 2 (by simp), h 3 (by simp), h 4 (by simp), h 5 (by simp), h 6 (by simp), h 7 (by simp)⟩
theorem kc7 {w : World} {b : Nat} {a0 a1 a2 a3 a4 a5 a6 a7 : Value} {r : List Value} (h : Blk w b (a0 :: a1 :: a2 :: a3 :: a4 :: a5 :: a6 :: a7 :: r)) : w.cell? ⟨b, 0, none⟩ = some a0 /\ w.cell? ⟨b, 1, none⟩ = some a1 /\ w.cell? ⟨b, 2, none⟩ = some a2 /\ w.cell? ⟨b, 3, none⟩ = some a3 /\ w.cell? ⟨b, 4, none⟩ = some a4 /\ w.cell? ⟨b, 5, none⟩ = some a5 /\ w.cell? ⟨b, 6, none⟩ = some a6 /\ w.cell? ⟨b, 7, none⟩ = some a7 := ⟨(h 0 (by simp)).1, (h 1 (by simp)).1, (h 2 (by simp)).1, (h 3 (by simp)).1, (h 4 (by simp)).1, (h 5 (by simp)).1, (h 6 (by simp)).1, (h 7 (by simp)).1⟩
theorem kf7 {w : World} {b : Nat} {a0 a1 a2 a3 a4 a5 a6 a7 : Value} {r : List Value} (h : Blk w b (a0 :: a1 :: a2 :: a3 :: a4 :: a5 :: a6 :: a7 :: r)) : w.frozen? ⟨b, 0, none⟩ = false /\ w.frozen? ⟨b, 1, none⟩ = false /\ w.frozen? ⟨b, 2, none⟩ = false /\ w.frozen? ⟨b, 3, none⟩ = false /\ w.frozen? ⟨b, 4, none⟩ = false /\ w.frozen? ⟨b, 5, none⟩ = false /\ w.frozen? ⟨b, 6, none⟩ = false /\ w.frozen? ⟨b, 7, none⟩ = false := ⟨(h 0 (by simp)).2, (h 1 (by simp)).2, (h 2 (by simp)).2, (h 3 (by simp)).2, (h 4 (by simp)).2, (h 5 (by simp)).2, (h 6 (by simp)).2, (h 7 (by simp)).2⟩
theorem ret_int {k : IntKind} {a b : Int} (h : a = b) : Ending.returned (.int k a) = .returned (.int k b) := by rw [h]
structure Upd (c : Nat) (w w' : World) : Prop where
 os : w'.os = w.os
 tape : w'.tape = w.tape
 output : w'.output = w.output
 size : w.heap.size <= w'.heap.size
 block : ∀ k, k < w.heap.size -> k ≠ c -> w'.heap[k]? = w.heap[k]?
theorem Upd.refl (c : Nat) (w : World) : Upd c w w := ⟨rfl, rfl, rfl, Nat.le_refl _, fun _ _ _ => rfl⟩
theorem Upd.trans {c : Nat} {a b d : World} (h : Upd c a b) (k : Upd c b d) : Upd c a d :=
 ⟨k.os.trans h.os, k.tape.trans h.tape, k.output.trans h.output, Nat.le_trans h.size k.size, fun j hj hc => (k.block j (Nat.lt_of_lt_of_le hj h.size) hc).trans (h.block j hj hc)⟩
theorem Upd.of_below {c : Nat} {w w' : World} (h : Below w.heap.size w w') : Upd c w w' := ⟨h.os, h.tape, h.output, h.size, fun k hk _ => h.block k hk⟩
theorem Upd.drewN {c : Nat} {w w' : World} (h : Upd c w w') (n : Nat) : Upd c w (w'.drewN n) := ⟨h.os, h.tape, h.output, h.size, h.block⟩
theorem Upd.setCell {c : Nat} {w w' : World} (h : Upd c w w') (o : Nat) (u : Value) : Upd c w (w'.setCell ⟨c, o, none⟩ u) := by
 have hb := (Below.refl 0 w').setCell (p := ⟨c, o, none⟩) (Nat.zero_le _) u
 exact ⟨hb.os.trans h.os, hb.tape.trans h.tape, hb.output.trans h.output, Nat.le_trans h.size hb.size, fun k hk hc => (Below.heap_setCell w' ⟨c, o, none⟩ u k hc).trans (h.block k hk hc)⟩
theorem Upd.cell {c : Nat} {w w' : World} (h : Upd c w w') {p : Addr} (hp : p.block < w.heap.size) (hc : p.block ≠ c) : w'.cell? p = w.cell? p := World.cell?_of_block (w := w) (h.block p.block hp hc)
theorem Upd.frozen {c : Nat} {w w' : World} (h : Upd c w w') {p : Addr} (hp : p.block < w.heap.size) (hc : p.block ≠ c) : w'.frozen? p = w.frozen? p := World.frozen?_of_block (w := w) (h.block p.block hp hc)
theorem Upd.below {c : Nat} {w W w' : World} (hb : Below w.heap.size w W) (h : Upd c W w') (hc : w.heap.size <= c) : Below w.heap.size w w' :=
 ⟨h.os.trans hb.os, h.tape.trans hb.tape, h.output.trans hb.output, Nat.le_trans hb.size h.size, fun k hk => (h.block k (Nat.lt_of_lt_of_le hk hb.size) (by omega)).trans (hb.block k hk)⟩
def Bytes (w : World) (c : Nat) (v0 : Option Addr) (len : Nat) : Prop :=
 ∀ j, j < len -> ∃ g o b, v0 = some ⟨g, o, none⟩ /\ g < c /\ w.cell? ⟨g, o + j, none⟩ = some (.int .u8 b) /\ 0 <= b /\ b < 256
theorem Bytes.upd {w w' : World} {c : Nat} {v0 : Option Addr} {len : Nat} (h : Bytes w c v0 len) (u : Upd c w w') (hc : c < w.heap.size) : Bytes w' c v0 len := fun j hj => by
 obtain ⟨g, o, b, e1, e2, e4, e5, e6⟩ := h j hj
 exact ⟨g, o, b, e1, e2, (u.cell (p := ⟨g, o + j, none⟩) (Nat.lt_trans e2 hc) (Nat.ne_of_lt e2)).trans e4, e5, e6⟩
theorem Bytes.same {w w' : World} {c : Nat} {v0 : Option Addr} {len : Nat} (h : Bytes w c v0 len) (u : ∀ k, k < c -> w'.heap[k]? = w.heap[k]?) : Bytes w' c v0 len := fun j hj => by
 obtain ⟨g, o, b, e1, e2, e4, e5, e6⟩ := h j hj
 exact ⟨g, o, b, e1, e2, (World.cell?_of_block (w := w) (u g e2)).trans e4, e5, e6⟩
structure Cur (w : World) (c : Nat) (A : Int) (v0 : Option Addr) (len cap : Nat) (at' seed room : Int) : Prop where
 c0 : w.cell? ⟨c, 0, none⟩ = some (.slice v0 len cap)
 c1 : w.cell? ⟨c, 1, none⟩ = some (.int .i64 at')
 c2 : w.cell? ⟨c, 2, none⟩ = some (.int .i64 seed)
 c3 : w.cell? ⟨c, 3, none⟩ = some (.int .i64 room)
 f1 : w.frozen? ⟨c, 1, none⟩ = false
 f2 : w.frozen? ⟨c, 2, none⟩ = false
 a0 : 0 <= at'
 a1 : at' <= A
 s0 : 0 <= seed
 s1 : seed < 2147483648
 ln : len <= 1048576
 lt : c < w.heap.size
 bs : Bytes w c v0 len
def IsCur (w : World) (c : Nat) (A : Int) : Prop := ∃ v0 len cap at' seed room, Cur w c A v0 len cap at' seed room
theorem Cur.size (w : World) (p : Addr) (u : Value) : w.heap.size <= (w.setCell p u).heap.size := ((Below.refl 0 w).setCell (p := p) (Nat.zero_le _) u).size
theorem Cur.at {w : World} {c : Nat} {A : Int} {v0 : Option Addr} {len cap : Nat} {at' seed room : Int} (h : Cur w c A v0 len cap at' seed room) : Cur (w.setCell ⟨c, 1, none⟩ (.int .i64 (at' + 1))) c (A + 1) v0 len cap (at' + 1) seed room := by
 have hb := h.bs.upd ((Upd.refl c w).setCell 1 (.int .i64 (at' + 1))) h.lt
 have hs := Cur.size w ⟨c, 1, none⟩ (.int .i64 (at' + 1))
 obtain ⟨c0, c1, c2, c3, f1, f2, a0, a1, s0, s1, ln, lt, bs⟩ := h
 clear bs
 exact ⟨by simp [go_sem, *], by simp [go_sem, *], by simp [go_sem, *], by simp [go_sem, *], by simp [go_sem, *], by simp [go_sem, *], by omega, by omega, s0, s1, ln, by omega, hb⟩
theorem Cur.seed {w : World} {c : Nat} {A : Int} {v0 : Option Addr} {len cap : Nat} {at' seed room : Int} (h : Cur w c A v0 len cap at' seed room) (x : Int) (x0 : 0 <= x) (x1 : x < 2147483648) : Cur (w.setCell ⟨c, 2, none⟩ (.int .i64 x)) c A v0 len cap at' x room := by
 have hb := h.bs.upd ((Upd.refl c w).setCell 2 (.int .i64 x)) h.lt
 have hs := Cur.size w ⟨c, 2, none⟩ (.int .i64 x)
 obtain ⟨c0, c1, c2, c3, f1, f2, a0, a1, s0, s1, ln, lt, bs⟩ := h
 clear bs
 exact ⟨by simp [go_sem, *], by simp [go_sem, *], by simp [go_sem, *], by simp [go_sem, *], by simp [go_sem, *], by simp [go_sem, *], by omega, by omega, x0, x1, ln, by omega, hb⟩
theorem Cur.drewN {w : World} {c : Nat} {A : Int} {v0 : Option Addr} {len cap : Nat} {at' seed room : Int} (h : Cur w c A v0 len cap at' seed room) (n : Nat) : Cur (w.drewN n) c A v0 len cap at' seed room :=
 ⟨h.c0, h.c1, h.c2, h.c3, h.f1, h.f2, h.a0, h.a1, h.s0, h.s1, h.ln, h.lt, h.bs⟩
theorem byte_any (c : Nat) (A : Int) (w : World) (h : IsCur w c A) (hA : A <= 1000000000) : Calls Tryz.prog 54 #[.pointer (some ⟨c, 0, none⟩)] w fun e w' => ∃ r : Int, 0 <= r /\ r < 256 /\ e = .returned (.int .i64 r) /\ IsCur w' c (A + 1) /\ Upd c w w' := by
 obtain ⟨v0, len, cap, at', seed, room, hC⟩ := h
 have HC : Hid (Cur w c A v0 len cap at' seed room) := hC
 obtain ⟨c0, c1, c2, c3, f1, f2, a0, a1, s0, s1, ln, lt, bs⟩ := hC
 have HB : Hid (Bytes w c v0 len) := bs
 clear bs
 by_cases h1 : 200 + 40 * (len : Int) < at' + 1
 .go_enter Tryz.func54, Tryz.ntmps54
  go_wp2
  go_quiet (fail)
  go_wp2
  go_ret
  exact ⟨0, by omega, by omega, rfl, ⟨_, _, _, _, _, _, HC.out.at.drewN _⟩, ((Upd.refl c w).setCell _ _).drewN _⟩
 .by_cases h2 : (len : Int) < at' + 1
  .go_enter Tryz.func54, Tryz.ntmps54
   go_wp2
   go_quiet (fail)
   go_wp2
   go_quiet (fail)
   go_wp2
   go_ret
   refine ⟨_, ?_, ?_, rfl, ⟨_, _, _, _, _, _, (HC.out.at.seed ((seed * 1103515245 + 12345) % 2147483648) (by omega) (by omega)).drewN _⟩, (((Upd.refl c w).setCell _ _).setCell _ _).drewN _⟩
   all_goals
    go_light
    omega
  .have hj : at'.toNat < len := by omega
   obtain ⟨g, o, b, rfl, hgc0, hcell, hb0, hb1⟩ := HB.out at'.toNat hj
   have hgc : g ≠ c := Nat.ne_of_lt hgc0
   clear hgc0
   have e1 : ((at'.toNat : Nat) : Int) = at' := by omega
   go_enter Tryz.func54, Tryz.ntmps54
   go_wp2
   go_quiet (fail)
   go_wp2
   go_quiet (fail)
   go_wp2
   have hcell' : ∀ n, ((w.setCell ⟨c, 1, none⟩ (.int .i64 (at' + 1))).drewN n).cell? ⟨g, o + at'.toNat, none⟩ = some (.int .u8 b) := fun n => by simp [go_sem, *]
   have hi0 : 0 <= at' + 1 - 1 := by omega
   have hi1 : at' + 1 - 1 < (len : Int) := by omega
   go_region
   all_goals
    go_wp2
    go_quiet (fail)
    go_wp2
    go_ret
    refine ⟨b, hb0, hb1, ret_int ?_, ?_, ?_⟩
    .go_light
     first | rfl | omega
    .exact ⟨_, _, _, _, _, _, (((HC.out.at).drewN _).seed _ (by omega) (by omega)).drewN _⟩
    .exact ((((Upd.refl c w).setCell _ _).drewN _).setCell _ _).drewN _
theorem IsCur.same {w w' : World} {c : Nat} {A : Int} (h : IsCur w c A) (u : ∀ k, k <= c -> w'.heap[k]? = w.heap[k]?) (hz : c < w'.heap.size) : IsCur w' c A := by
 obtain ⟨v0, len, cap, at', seed, room, hC⟩ := h
 have hb := u c (Nat.le_refl _)
 exact ⟨v0, len, cap, at', seed, room, ⟨(World.cell?_of_block (w := w) (a := ⟨c, 0, none⟩) hb).trans hC.c0, (World.cell?_of_block (w := w) (a := ⟨c, 1, none⟩) hb).trans hC.c1, (World.cell?_of_block (w := w) (a := ⟨c, 2, none⟩) hb).trans hC.c2, (World.cell?_of_block (w := w) (a := ⟨c, 3, none⟩) hb).trans hC.c3, (World.frozen?_of_block (w := w) (a := ⟨c, 1, none⟩) hb).trans hC.f1, (World.frozen?_of_block (w := w) (a := ⟨c, 2, none⟩) hb).trans hC.f2, hC.a0, hC.a1, hC.s0, hC.s1, hC.ln, hz, hC.bs.same fun k hk => u k (Nat.le_of_lt hk)⟩⟩
theorem IsCur.lt {w : World} {c : Nat} {A : Int} (h : IsCur w c A) : c < w.heap.size := by
 obtain ⟨_, _, _, _, _, _, hC⟩ := h
 exact hC.lt
theorem IsCur.mono {w : World} {c : Nat} {A B : Int} (h : IsCur w c A) (hAB : A <= B) : IsCur w c B := by
 obtain ⟨v0, len, cap, at', seed, room, hC⟩ := h
 exact ⟨v0, len, cap, at', seed, room, ⟨hC.c0, hC.c1, hC.c2, hC.c3, hC.f1, hC.f2, hC.a0, Int.le_trans hC.a1 hAB, hC.s0, hC.s1, hC.ln, hC.lt, hC.bs⟩⟩
def Drawn (c : Nat) (A : Int) (n : Int) (w : World) (e : Ending) (w' : World) : Prop := ∃ r : Int, 0 <= r /\ r < n /\ e = .returned (.int .i64 r) /\ IsCur w' c A /\ Upd c w w'
theorem pick_any (c : Nat) (A n : Int) (w : World) (h : IsCur w c A) (hA : A <= 100000000) (h1 : 2 <= n) (h2 : n <= 65536) : Calls Tryz.prog 28 #[.pointer (some ⟨c, 0, none⟩), .int .i64 n] w fun e w' => Drawn c (A + 2) n w e w' := by
 by_cases h256 : n <= 256
 .go_enter Tryz.func28, Tryz.ntmps28
  go_wp2_with fail
  refine (byte_any c A _ h (by omega)).mono ?_
  rintro e w1 ⟨r, r0, r1, rfl, hc1, hu1⟩
  have hm0 : 0 <= r % n := Int.emod_nonneg _ (by omega)
  have hm1 : r % n < n := Int.emod_lt_of_pos _ (by omega)
  have hn0 : (n == 0) = false := by rw [beq_eq_false_iff_ne]; omega
  go_wp2
  go_ret
  exact ⟨_, by omega, by omega, rfl, hc1.mono (by omega), hu1⟩
 .go_enter Tryz.func28, Tryz.ntmps28
  go_wp2_with fail
  refine (byte_any c A _ h (by omega)).mono ?_
  rintro e w1 ⟨r, r0, r1, rfl, hc1, hu1⟩
  go_wp2_with fail
  refine (byte_any c (A + 1) _ hc1 (by omega)).mono ?_
  rintro e w2 ⟨q, q0, q1, rfl, hc2, hu2⟩
  have hm0 : 0 <= (r * 256 + q) % n := Int.emod_nonneg _ (by omega)
  have hm1 : (r * 256 + q) % n < n := Int.emod_lt_of_pos _ (by omega)
  have hn0 : (n == 0) = false := by rw [beq_eq_false_iff_ne]; omega
  go_wp2
  go_ret
  exact ⟨_, by omega, by omega, rfl, hc2.mono (by omega), hu1.trans hu2⟩
structure TI where
 bgn : Int
 com : Int
 reads : List Int
 writes : List Int
def CT (B : Nat) (w : World) (cs : List Value) (x : TI) : Prop := ∃ rv wv, cs = [.int .i64 x.bgn, .int .i64 x.com, rv, wv] /\ RS 1 CI B w rv x.reads /\ RS 1 CI B w wv x.writes
theorem liesT : Lies 4 CT :=
 ⟨fun ⟨_, _, h, _⟩ => by rw [h]; rfl, fun ⟨a, b, h, r, s⟩ hd => ⟨a, b, h, r.mono liesI hd, s.mono liesI hd⟩, fun ⟨a, b, h, r, s⟩ hb => ⟨a, b, h, r.below liesI hb, s.below liesI hb⟩, fun ⟨a, b, h, r, s⟩ hc => ⟨a, b, h, r.set liesI hc, s.set liesI hc⟩⟩
def BT (M : Nat) (x : TI) : Prop := x.reads.length <= M /\ x.writes.length <= M
def BH (M : Nat) (x : List TI) : Prop := x.length <= M /\ ∀ t ∈ x, BT M t
def RB (p : Prop) (e : Ending) : Prop := ∃ b : Bool, e = .returned (.bool b) /\ (b = true ↔ p)
theorem rb_t {p : Prop} (h : p) : RB p (.returned (.bool true)) := ⟨true, rfl, ⟨fun _ => h, fun _ => rfl⟩⟩
theorem rb_f {p : Prop} (h : ¬ p) : RB p (.returned (.bool false)) := ⟨false, rfl, ⟨fun z => (by cases z), fun q => absurd q h⟩⟩
theorem Blk.other {w : World} {b c j : Nat} {u : Value} {cs : List Value} (h : Blk w b cs) (hc : c ≠ b) : Blk (w.setCell ⟨c, j, none⟩ u) b cs := fun l hl => by
 have hne : ∀ e : (⟨b, l, none⟩ : Addr) = ⟨c, j, none⟩, False := fun e => by cases e; exact hc rfl
 refine ⟨?_, ?_⟩
 .rw [World.cell?_setCell_other w ⟨c, j, none⟩ ⟨b, l, none⟩ u (fun e => by cases e; exact hc rfl)]; exact (h l hl).1
 .simpa using (h l hl).2
theorem Blk.set {w : World} {b : Nat} {cs : List Value} (h : Blk w b cs) (j : Nat) (u : Value) (hj : j < cs.length := by simp) : Blk (w.setCell ⟨b, j, none⟩ u) b (cs.set j u) := fun l hl => by
 rw [List.length_set] at hl
 refine ⟨?_, ?_⟩
 .by_cases e : l = j
  .subst e
   rw [List.getElem?_set_self hl]
   have := (h l hl).1
   rw [List.getElem?_eq_getElem hl] at this
   simp [go_sem, this, (h l hl).2]
  .rw [List.getElem?_set_ne (by omega), World.cell?_setCell_other w ⟨b, j, none⟩ ⟨b, l, none⟩ u (fun e' => by cases e'; exact e rfl)]
   exact (h l hl).1
 .simpa using (h l hl).2
theorem blk_new (w : World) (cs : List Value) (t : Nat) : Blk (w.alloc (.cells cs.toArray t)) w.heap.size cs := fun j hj => by
 refine ⟨?_, ?_⟩
 .simp [go_sem]
 .simp [go_sem]
theorem blkA (w : World) (c0 c1 c2 : List Value) (t0 t1 t2 : Nat) : Blk (((w.alloc (.cells c0.toArray t0)).alloc (.cells c1.toArray t1)).alloc (.cells c2.toArray t2)) w.heap.size c0 :=
 ((blk_new w c0 t0).below (below_alloc _ _) (by simp)).below (below_alloc _ _) (by simp; omega)
theorem blkB (w : World) (c0 c1 c2 : List Value) (t0 t1 t2 : Nat) : Blk (((w.alloc (.cells c0.toArray t0)).alloc (.cells c1.toArray t1)).alloc (.cells c2.toArray t2)) (w.heap.size + 1) c1 := by
 have := blk_new (w.alloc (.cells c0.toArray t0)) c1 t1
 rw [show (w.alloc (.cells c0.toArray t0)).heap.size = w.heap.size + 1 by simp] at this
 exact this.below (below_alloc _ _) (by simp)
theorem blkC (w : World) (c0 c1 c2 : List Value) (t0 t1 t2 : Nat) : Blk (((w.alloc (.cells c0.toArray t0)).alloc (.cells c1.toArray t1)).alloc (.cells c2.toArray t2)) (w.heap.size + 1 + 1) c2 := by
 have := blk_new ((w.alloc (.cells c0.toArray t0)).alloc (.cells c1.toArray t1)) c2 t2
 rw [show ((w.alloc (.cells c0.toArray t0)).alloc (.cells c1.toArray t1)).heap.size = w.heap.size + 1 + 1 by simp] at this
 exact this
theorem blkD (w : World) (c0 c1 : List Value) (t0 t1 : Nat) : Blk ((w.alloc (.cells c0.toArray t0)).alloc (.cells c1.toArray t1)) (w.heap.size + 1) c1 := by
 have := blk_new (w.alloc (.cells c0.toArray t0)) c1 t1
 rw [show (w.alloc (.cells c0.toArray t0)).heap.size = w.heap.size + 1 by simp] at this
 exact this
theorem infoInt : (Tryz.prog.info? 3).map (fun i => (i.zero, i.size, i.bytes)) = some (some (.int .i64 0), 1, 8) := by kernel_rfl
end Go.Proofs.YtblkgicbimflhaaGreat
