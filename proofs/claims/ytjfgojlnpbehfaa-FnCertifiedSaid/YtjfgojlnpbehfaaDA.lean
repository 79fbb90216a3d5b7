import Derived.Test.YtjfgojlnpbehfaaProg
import Derived.WalkKit
import Derived.ProofKit
import Derived.OpenShut
import Derived.WalkLawsBesides
import Derived.Deep.Light
import Derived.WalkSpells
import Derived.OwnWalk
import Derived.Deep.QuietTactic
import Derived.BigQuiet
import Derived.Deep.RegionWith
namespace Go.Proofs.Ytjfgojlnpbehfaa
open Go.ChangeShapes Go.WideShapes Go.ChangeAt Go.RowKit
set_option linter.unusedVariables false
set_option linter.unusedSimpArgs false
set_option maxRecDepth 100000
theorem hid {p : Prop} (h : p) : Hid p := h
theorem ret_b {a b : Bool} (h : a = b) : Ending.returned (.bool a) = .returned (.bool b) := by rw [h]
theorem below_alloc (w : World) (o : Obj) : Below w.heap.size w (w.alloc o) := (Below.refl _ w).alloc (Nat.le_refl _) o
theorem bcell {W w1 : World} (hb : Below W.heap.size W w1) : (∀ b o, b < W.heap.size → w1.cell? ⟨b, o, none⟩ = W.cell? ⟨b, o, none⟩) ∧ (∀ b o, b < W.heap.size → w1.frozen? ⟨b, o, none⟩ = W.frozen? ⟨b, o, none⟩) :=
  ⟨fun b o h => hb.cell (p := ⟨b, o, none⟩) h, fun b o h => hb.frozen (p := ⟨b, o, none⟩) h⟩
theorem undrew {W w' : World} (hb : Below W.drew.heap.size W.drew w') : Below W.heap.size W w' := (Below.refl W.heap.size W).drew.trans hb
theorem below_drewNt (w : World) : ∀ n, Below w.heap.size w (w.drewN n)
  | 0 => Below.refl _ _
  | n + 1 => (below_drewNt w n).drew
theorem own_cell {w : World} {b e s g n c : Nat} {xs : List Value} {u : Value} {j : Nat} (h : w.ownsRow b e s (.slice (some ⟨g, 0, none⟩) n c) n xs) (hj : xs[j]? = some u) : w.cell? ⟨g, j, none⟩ = some u := by
  have := h.cells rfl j u hj
  by_cases hz : j = 0
  · subst hz; simpa [Addr.add] using this
  · simpa [Addr.add, hz] using this
theorem own_below {w w' : World} {b e k n : Nat} {v : Value} {xs : List Value} (h : w.ownsRow b e k v n xs) (hb : Below w.heap.size w w') : w'.ownsRow b e k v n xs := by
  have hl := h.lt
  obtain ⟨h1, h2⟩ := h
  refine ⟨h1, ?_⟩
  rcases h2 with h2 | ⟨g, cap, cur, rfl, hg1, hg2, hg3⟩
  · exact .inl h2
  · exact .inr ⟨g, cap, cur, rfl, hg1, (hb.block g (hl g rfl).2).trans hg2, hg3⟩
/-- How a thing of k cells lies in memory, what it leads to in blocks from B on. -/
structure Lies {α : Type} (k : Nat) (C : Nat → World → List Value → α → Prop) : Prop where
  len : ∀ {B w cs x}, C B w cs x → cs.length = k
  mono : ∀ {B D w cs x}, C B w cs x → D ≤ B → C D w cs x
  below : ∀ {B w w' cs x}, C B w cs x → Below w.heap.size w w' → C B w' cs x
  set : ∀ {B w cs x} {c j : Nat} {u : Value}, C B w cs x → c < B → C B (w.setCell ⟨c, j, none⟩ u) cs x
/-- A list that a slice leads to. -/
def RS {α : Type} (k : Nat) (C : Nat → World → List Value → α → Prop) (B : Nat) (w : World) (v : Value) (xs : List α) : Prop :=
  ∃ a cap, v = .slice a xs.length cap ∧ (0 < xs.length → ∃ g o, a = some ⟨g, o, none⟩ ∧ B ≤ g ∧ g < w.heap.size ∧ ∀ i (h : i < xs.length), ∃ cs, C B w cs xs[i] ∧ ∀ j, j < k → w.cell? ⟨g, o + i * k + j, none⟩ = cs[j]?)
theorem RS.mono {α : Type} {k : Nat} {C : Nat → World → List Value → α → Prop} (hC : Lies k C) {B D : Nat} {w : World} {v : Value} {xs : List α} (h : RS k C B w v xs) (hd : D ≤ B) : RS k C D w v xs := by
  obtain ⟨a, cap, rfl, h2⟩ := h
  refine ⟨a, cap, rfl, fun hp => ?_⟩
  obtain ⟨g, o, ha, hB, hg, hc⟩ := h2 hp
  exact ⟨g, o, ha, Nat.le_trans hd hB, hg, fun i hi => let ⟨cs, a, b⟩ := hc i hi; ⟨cs, hC.mono a hd, b⟩⟩
theorem RS.below {α : Type} {k : Nat} {C : Nat → World → List Value → α → Prop} (hC : Lies k C) {B : Nat} {w w' : World} {v : Value} {xs : List α} (h : RS k C B w v xs) (hb : Below w.heap.size w w') : RS k C B w' v xs := by
  obtain ⟨a, cap, rfl, h2⟩ := h
  refine ⟨a, cap, rfl, fun hp => ?_⟩
  obtain ⟨g, o, ha, hB, hg, hc⟩ := h2 hp
  exact ⟨g, o, ha, hB, Nat.lt_of_lt_of_le hg hb.size, fun i hi => let ⟨cs, a, b⟩ := hc i hi; ⟨cs, hC.below a hb, fun j hj => (hb.cell (p := ⟨g, o + i * k + j, none⟩) hg).trans (b j hj)⟩⟩
theorem RS.set {α : Type} {k : Nat} {C : Nat → World → List Value → α → Prop} (hC : Lies k C) {B c j : Nat} {w : World} {v u : Value} {xs : List α} (h : RS k C B w v xs) (hc : c < B) : RS k C B (w.setCell ⟨c, j, none⟩ u) v xs := by
  obtain ⟨a, cap, rfl, h2⟩ := h
  refine ⟨a, cap, rfl, fun hp => ?_⟩
  obtain ⟨g, o, ha, hB, hg, hc'⟩ := h2 hp
  refine ⟨g, o, ha, hB, by simpa using hg, fun i hi => ?_⟩
  obtain ⟨cs, a, b⟩ := hc' i hi
  refine ⟨cs, hC.set a hc, fun l hl => ?_⟩
  rw [World.cell?_setCell_other w ⟨c, j, none⟩ ⟨g, o + i * k + l, none⟩ u (fun e => by cases e; omega)]
  exact b l hl
/-- A number. -/
def CI (B : Nat) (w : World) (cs : List Value) (x : Int) : Prop := cs = [.int .i64 x]
theorem liesI : Lies 1 CI := ⟨fun h => by rw [h]; rfl, fun h _ => h, fun h _ => h, fun h _ => h⟩
/-- A row with a thing put at o. -/
def setL : List Value → Nat → List Value → List Value
  | xs, _, [] => xs
  | xs, o, c :: cs => setL (xs.set o c) (o + 1) cs
def setW (w : World) (g : Nat) : Nat → List Value → World
  | _, [] => w
  | o, c :: cs => setW (w.setCell ⟨g, o, none⟩ c) g (o + 1) cs
theorem setL_len : ∀ (cs xs : List Value) (o : Nat), (setL xs o cs).length = xs.length
  | [], _, _ => rfl
  | c :: cs, xs, o => by unfold setL; rw [setL_len cs]; simp
theorem setL_else : ∀ (cs xs : List Value) (o i : Nat), i < o → (setL xs o cs)[i]? = xs[i]?
  | [], _, _, _, _ => rfl
  | c :: cs, xs, o, i, h => by unfold setL; rw [setL_else cs _ _ _ (by omega), List.getElem?_set_ne (by omega)]
theorem setL_at : ∀ (cs xs : List Value) (o j : Nat), o + cs.length ≤ xs.length → j < cs.length → (setL xs o cs)[o + j]? = cs[j]?
  | [], _, _, _, _, h => by simp at h
  | c :: cs, xs, o, 0, h, _ => by
    unfold setL
    rw [setL_else _ _ _ _ (by omega), Nat.add_zero, List.getElem?_set_self (by simp at h; omega)]
    rfl
  | c :: cs, xs, o, j + 1, h, hj => by
    unfold setL
    have := setL_at cs (xs.set o c) (o + 1) j (by simp at h ⊢; omega) (by simpa using hj)
    rw [show o + (j + 1) = o + 1 + j by omega, this]
    rfl
theorem own_setW {b e k n g cap : Nat} : ∀ (cs xs : List Value) (o : Nat) (w : World), w.ownsRow b e k (.slice (some ⟨g, 0, none⟩) n cap) n xs → (setW w g o cs).ownsRow b e k (.slice (some ⟨g, 0, none⟩) n cap) n (setL xs o cs)
  | [], _, _, _, h => h
  | c :: cs, xs, o, w, h => own_setW cs _ _ _ (h.stored o c).1
theorem below_setW {B g : Nat} {a : World} (hg : B ≤ g) : ∀ (cs : List Value) (o : Nat) (w : World), Below B a w → Below B a (setW w g o cs)
  | [], _, _, h => h
  | c :: cs, o, w, h => below_setW hg cs _ _ (h.setCell hg _)
theorem setW_size (g : Nat) : ∀ (cs : List Value) (o : Nat) (w : World), (setW w g o cs).heap.size = w.heap.size
  | [], _, _ => rfl
  | c :: cs, o, w => by unfold setW; rw [setW_size g cs]; simp
theorem lies_setW {α : Type} {k : Nat} {C : Nat → World → List Value → α → Prop} (hC : Lies k C) {B g : Nat} {ds : List Value} {x : α} (hg : g < B) : ∀ (cs : List Value) (o : Nat) (w : World), C B w ds x → C B (setW w g o cs) ds x
  | [], _, _, h => h
  | c :: cs, o, w, h => lies_setW hC hg cs _ _ (hC.set h hg)
/-- A row that is filled up to k. -/
def Fill {α : Type} (K : Nat) (C : Nat → World → List Value → α → Prop) (B : Nat) (us : List α) (k : Nat) (xs : List Value) (w : World) : Prop := xs.length = us.length * K ∧ ∀ i (h : i < us.length), i < k → ∃ cs, C B w cs us[i] ∧ ∀ j, j < K → xs[i * K + j]? = cs[j]?
theorem mul_le {i k K : Nat} (h : i < k) : i * K + K ≤ k * K := by
  have := Nat.mul_le_mul_right K (show i + 1 ≤ k by omega)
  rw [Nat.succ_mul] at this
  exact this
theorem Fill.step {α : Type} {K : Nat} {C : Nat → World → List Value → α → Prop} (hC : Lies K C) {B g : Nat} {us : List α} {k : Nat} {xs : List Value} {w w2 : World} {cs : List Value} (hg : g < B) (h : Fill K C B us k xs w) (hk : k < us.length) (hb : Below w.heap.size w w2) (hn : C B w2 cs us[k]) : Fill K C B us (k + 1) (setL xs (k * K) cs) (setW w2 g (k * K) cs) := by
  obtain ⟨h1, h2⟩ := h
  have hl := hC.len hn
  have hkk := mul_le (K := K) hk
  refine ⟨by rw [setL_len]; exact h1, fun i hi hik => ?_⟩
  by_cases e : i = k
  · subst e
    exact ⟨cs, lies_setW hC hg _ _ _ hn, fun j hj => setL_at cs xs _ j (by omega) (by omega)⟩
  · obtain ⟨ds, a, b⟩ := h2 i hi (by omega)
    have hik2 := mul_le (K := K) (show i < k by omega)
    exact ⟨ds, lies_setW hC hg _ _ _ (hC.below a hb), fun j hj => by rw [setL_else _ _ _ _ (by omega)]; exact b j hj⟩
theorem Fill.rs {α : Type} {K : Nat} {C : Nat → World → List Value → α → Prop} (hC : Lies K C) {B D g e : Nat} {us : List α} {xs : List Value} {w : World} (h : Fill K C B us us.length xs w) (ho : w.ownsRow D e K (.slice (some ⟨g, 0, none⟩) us.length us.length) us.length xs) (hD : D ≤ B) (hg : D ≤ g) : RS K C D w (.slice (some ⟨g, 0, none⟩) us.length us.length) us :=
  ⟨_, _, rfl, fun _ => ⟨g, 0, rfl, hg, (ho.lt _ rfl).2, fun i hi => by
    obtain ⟨cs, a, b⟩ := h.2 i hi hi
    refine ⟨cs, hC.mono a hD, fun j hj => ?_⟩
    rw [Nat.zero_add, ← b j hj]
    have hx : i * K + j < xs.length := by rw [h.1]; have := mul_le (K := K) hi; omega
    rw [List.getElem?_eq_getElem hx]
    exact own_cell ho (List.getElem?_eq_getElem hx)⟩⟩
/-- A block of cells that can be written. -/
def Blk (w : World) (b : Nat) (cs : List Value) : Prop := ∀ j, j < cs.length → w.cell? ⟨b, j, none⟩ = cs[j]? ∧ w.frozen? ⟨b, j, none⟩ = false
theorem Blk.below {w w' : World} {b : Nat} {cs : List Value} (h : Blk w b cs) (hb : Below w.heap.size w w') (hl : b < w.heap.size) : Blk w' b cs := fun j hj => ⟨(hb.cell (p := ⟨b, j, none⟩) hl).trans (h j hj).1, (hb.frozen (p := ⟨b, j, none⟩) hl).trans (h j hj).2⟩
end Go.Proofs.Ytjfgojlnpbehfaa
