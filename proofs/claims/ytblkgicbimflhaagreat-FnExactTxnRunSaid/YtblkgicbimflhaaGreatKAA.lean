import Derived.Test.YtblkgicbimflhaaGreatProg
import Derived.WalkKit
import Derived.ProofKit
import Derived.OpenShut
import Derived.WalkLawsBesides
import Derived.Deep.Light
import Derived.WalkSpells
import Derived.OwnWalk
import Derived.Deep.QuietTactic
import Derived.BigQuiet
import Derived.Deep.RegionWith
namespace Go.Proofs.YtblkgicbimflhaaGreat
open Go.ChangeShapes Go.WideShapes Go.ChangeAt Go.RowKit
set_option linter.unusedVariables false
set_option linter.unusedSimpArgs false
set_option maxRecDepth 100000
open List (setIfInBounds_toArray set_cons_zero set_cons_succ)
theorem hid {p : Prop} (h : p) : Hid p := h
theorem below_alloc (w : World) (o : Obj) : Below w.heap.size w (w.alloc o) := (Below.refl _ w).alloc (Nat.le_refl _) o
theorem undrew {W w' : World} (hb : Below W.drew.heap.size W.drew w') : Below W.heap.size W w' := (Below.refl W.heap.size W).drew.trans hb
theorem below_drewNt (w : World) : ∀ n, Below w.heap.size w (w.drewN n)
 | 0 => Below.refl _ _
 | n + 1 => (below_drewNt w n).drew
theorem own_cell {w : World} {b e s g n c : Nat} {xs : List Value} {u : Value} {j : Nat} (h : w.ownsRow b e s (.slice (some ⟨g, 0, none⟩) n c) n xs) (hj : xs[j]? = some u) : w.cell? ⟨g, j, none⟩ = some u := by
 have := h.cells rfl j u hj
 by_cases hz : j = 0
 ·subst hz; simpa [Addr.add] using this
 ·simpa [Addr.add, hz] using this
theorem own_below {w w' : World} {b e k n : Nat} {v : Value} {xs : List Value} (h : w.ownsRow b e k v n xs) (hb : Below w.heap.size w w') : w'.ownsRow b e k v n xs := by
 have hl := h.lt
 obtain ⟨h1, h2⟩ := h
 refine ⟨h1, ?_⟩
 rcases h2 with h2 | ⟨g, cap, cur, rfl, hg1, hg2, hg3⟩
 ·exact .inl h2
 ·exact .inr ⟨g, cap, cur, rfl, hg1, (hb.block g (hl g rfl).2).trans hg2, hg3⟩
structure Lies {α : Type} (k : Nat) (C : Nat → World → List Value → α → Prop) : Prop where
 len : ∀ {B w cs x}, C B w cs x → cs.length = k
 mono : ∀ {B D w cs x}, C B w cs x → D ≤ B → C D w cs x
 below : ∀ {B w w' cs x}, C B w cs x → Below w.heap.size w w' → C B w' cs x
 set : ∀ {B w cs x} {c j : Nat} {u : Value}, C B w cs x → c < B → C B (w.setCell ⟨c, j, none⟩ u) cs x
def RS {α : Type} (k : Nat) (C : Nat → World → List Value → α → Prop) (B : Nat) (w : World) (v : Value) (xs : List α) : Prop :=
 ∃ a cap, v = .slice a xs.length cap ∧ (0 < xs.length → ∃ g o, a = some ⟨g, o, none⟩ ∧ B ≤ g ∧ g < w.heap.size ∧ ∀ i (h : i < xs.length), ∃ cs, C B w cs xs[i] ∧ ∀ j, j < k → w.cell? ⟨g, o + i * k + j, none⟩ = cs[j]?)
theorem RS.mono {α : Type} {k : Nat} {C : Nat → World → List Value → α → Prop} (hC : Lies k C) {B D : Nat} {w : World} {v : Value} {xs : List α} (h : RS k C B w v xs) (hd : D ≤ B) : RS k C D w v xs := by
 obtain ⟨a, cap, rfl, h2⟩ := h
 refine ⟨a, cap, rfl, fun hp => ?_⟩
 obtain ⟨g, o, ha, hB, hg, hc⟩ := h2 hp
 exact ⟨g, o, ha, Nat.le_trans hd hB, hg, fun i hi => let ⟨cs, a, b⟩ := hc i hi; ⟨cs, hC.mono a hd, b⟩⟩
theorem RS.below {α : Type} {k : Nat} {C : Nat → World → List Value → α → Prop} (hC : Lies k C) {B : Nat} {w w' : World} {v : Value} {xs : List α} (h : RS k C B w v xs) (hb : Below w.heap.size w w') : RS k C B w' v xs := by
 obtain ⟨a, cap, rfl, h2⟩ := h
 refine ⟨a, cap, rfl, fun hp => ?_⟩
 obtain ⟨g, o, ha, hB, hg, hc⟩ := h2 hp
 exact ⟨g, o, ha, hB, Nat.lt_of_lt_of_le hg hb.size, fun i hi => let ⟨cs, a, b⟩ := hc i hi; ⟨cs, hC.below a hb, fun j hj => (hb.cell (p := ⟨g, o + i * k + j, none⟩) hg).trans (b j hj)⟩⟩
theorem RS.set {α : Type} {k : Nat} {C : Nat → World → List Value → α → Prop} (hC : Lies k C) {B c j : Nat} {w : World} {v u : Value} {xs : List α} (h : RS k C B w v xs) (hc : c < B) : RS k C B (w.setCell ⟨c, j, none⟩ u) v xs := by
 obtain ⟨a, cap, rfl, h2⟩ := h
 refine ⟨a, cap, rfl, fun hp => ?_⟩
 obtain ⟨g, o, ha, hB, hg, hc'⟩ := h2 hp
 refine ⟨g, o, ha, hB, by simpa using hg, fun i hi => ?_⟩
 obtain ⟨cs, a, b⟩ := hc' i hi
 refine ⟨cs, hC.set a hc, fun l hl => ?_⟩
 rw [World.cell?_setCell_other w ⟨c, j, none⟩ ⟨g, o + i * k + l, none⟩ u (fun e => by cases e; omega)]
 exact b l hl
def CI (B : Nat) (w : World) (cs : List Value) (x : Int) : Prop := cs = [.int .i64 x]
theorem liesI : Lies 1 CI := ⟨fun h => by rw [h]; rfl, fun h _ => h, fun h _ => h, fun h _ => h⟩
def setL : List Value → Nat → List Value → List Value
 | xs, _, [] => xs
 | xs, o, c :: cs => setL (xs.set o c) (o + 1) cs
def setW (w : World) (g : Nat) : Nat → List Value → World
 | _, [] => w
 | o, c :: cs => setW (w.setCell ⟨g, o, none⟩ c) g (o + 1) cs
theorem setL_len : ∀ (cs xs : List Value) (o : Nat), (setL xs o cs).length = xs.length
 | [], _, _ => rfl
 | c :: cs, xs, o => by unfold setL; rw [setL_len cs]; simp
theorem setL_else : ∀ (cs xs : List Value) (o i : Nat), i < o → (setL xs o cs)[i]? = xs[i]?
 | [], _, _, _, _ => rfl
 | c :: cs, xs, o, i, h => by unfold setL; rw [setL_else cs _ _ _ (by omega), List.getElem?_set_ne (by omega)]
theorem setL_at : ∀ (cs xs : List Value) (o j : Nat), o + cs.length ≤ xs.length → j < cs.length → (setL xs o cs)[o + j]? = cs[j]?
 | [], _, _, _, _, h => by simp at h
 | c :: cs, xs, o, 0, h, _ => by
   unfold setL
   rw [setL_else _ _ _ _ (by omega), Nat.add_zero, List.getElem?_set_self (by simp at h; omega)]
   rfl
 | c :: cs, xs, o, j + 1, h, hj => by
   unfold setL
   have := setL_at cs (xs.set o c) (o + 1) j (by simp at h ⊢; omega) (by simpa using hj)
   rw [show o + (j + 1) = o + 1 + j by omega, this]
   rfl
theorem own_setW {b e k n g cap : Nat} : ∀ (cs xs : List Value) (o : Nat) (w : World), w.ownsRow b e k (.slice (some ⟨g, 0, none⟩) n cap) n xs → (setW w g o cs).ownsRow b e k (.slice (some ⟨g, 0, none⟩) n cap) n (setL xs o cs)
 | [], _, _, _, h => h
 | c :: cs, xs, o, w, h => own_setW cs _ _ _ (h.stored o c).1
theorem below_setW {B g : Nat} {a : World} (hg : B ≤ g) : ∀ (cs : List Value) (o : Nat) (w : World), Below B a w → Below B a (setW w g o cs)
 | [], _, _, h => h
 | c :: cs, o, w, h => below_setW hg cs _ _ (h.setCell hg _)
theorem lies_setW {α : Type} {k : Nat} {C : Nat → World → List Value → α → Prop} (hC : Lies k C) {B g : Nat} {ds : List Value} {x : α} (hg : g < B) : ∀ (cs : List Value) (o : Nat) (w : World), C B w ds x → C B (setW w g o cs) ds x
 | [], _, _, h => h
 | c :: cs, o, w, h => lies_setW hC hg cs _ _ (hC.set h hg)
def Fill {α : Type} (K : Nat) (C : Nat → World → List Value → α → Prop) (B : Nat) (us : List α) (k : Nat) (xs : List Value) (w : World) : Prop := xs.length = us.length * K ∧ ∀ i (h : i < us.length), i < k → ∃ cs, C B w cs us[i] ∧ ∀ j, j < K → xs[i * K + j]? = cs[j]?
theorem mul_le {i k K : Nat} (h : i < k) : i * K + K ≤ k * K := by
 have := Nat.mul_le_mul_right K (show i + 1 ≤ k by omega)
 rw [Nat.succ_mul] at this
 exact this
theorem Fill.step {α : Type} {K : Nat} {C : Nat → World → List Value → α → Prop} (hC : Lies K C) {B g : Nat} {us : List α} {k : Nat} {xs : List Value} {w w2 : World} {cs : List Value} (hg : g < B) (h : Fill K C B us k xs w) (hk : k < us.length) (hb : Below w.heap.size w w2) (hn : C B w2 cs us[k]) : Fill K C B us (k + 1) (setL xs (k * K) cs) (setW w2 g (k * K) cs) := by
 obtain ⟨h1, h2⟩ := h
 have hl := hC.len hn
 have hkk := mul_le (K := K) hk
 refine ⟨by rw [setL_len]; exact h1, fun i hi hik => ?_⟩
 by_cases e : i = k
 ·subst e
  exact ⟨cs, lies_setW hC hg _ _ _ hn, fun j hj => setL_at cs xs _ j (by omega) (by omega)⟩
 ·obtain ⟨ds, a, b⟩ := h2 i hi (by omega)
  have hik2 := mul_le (K := K) (show i < k by omega)
  exact ⟨ds, lies_setW hC hg _ _ _ (hC.below a hb), fun j hj => by rw [setL_else _ _ _ _ (by omega)]; exact b j hj⟩
def Blk (w : World) (b : Nat) (cs : List Value) : Prop := ∀ j, j < cs.length → w.cell? ⟨b, j, none⟩ = cs[j]? ∧ w.frozen? ⟨b, j, none⟩ = false
theorem Blk.below {w w' : World} {b : Nat} {cs : List Value} (h : Blk w b cs) (hb : Below w.heap.size w w') (hl : b < w.heap.size) : Blk w' b cs := fun j hj => ⟨(hb.cell (p := ⟨b, j, none⟩) hl).trans (h j hj).1, (hb.frozen (p := ⟨b, j, none⟩) hl).trans (h j hj).2⟩
structure TI where
 bgn : Int
 com : Int
 reads : List Int
 writes : List Int
def CT (B : Nat) (w : World) (cs : List Value) (x : TI) : Prop := ∃ rv wv, cs = [.int .i64 x.bgn, .int .i64 x.com, rv, wv] ∧ RS 1 CI B w rv x.reads ∧ RS 1 CI B w wv x.writes
theorem liesT : Lies 4 CT :=
 ⟨fun ⟨_, _, h, _⟩ => by rw [h]; rfl, fun ⟨a, b, h, r, s⟩ hd => ⟨a, b, h, r.mono liesI hd, s.mono liesI hd⟩, fun ⟨a, b, h, r, s⟩ hb => ⟨a, b, h, r.below liesI hb, s.below liesI hb⟩, fun ⟨a, b, h, r, s⟩ hc => ⟨a, b, h, r.set liesI hc, s.set liesI hc⟩⟩
def BT (M : Nat) (x : TI) : Prop := x.reads.length ≤ M ∧ x.writes.length ≤ M
def BH (M : Nat) (x : List TI) : Prop := x.length ≤ M ∧ ∀ t ∈ x, BT M t
def SzR (p : Prop) (left : Int) (e : Ending) : Prop := e = .returned (.int .i64 (-1)) ∨ ∃ m : Nat, (m : Int) ≤ left ∧ e = .returned (.int .i64 m) ∧ p
def RB (p : Prop) (e : Ending) : Prop := ∃ b : Bool, e = .returned (.bool b) ∧ (b = true ↔ p)
theorem rb_t {p : Prop} (h : p) : RB p (.returned (.bool true)) := ⟨true, rfl, ⟨fun _ => h, fun _ => rfl⟩⟩
theorem rb_f {p : Prop} (h : ¬ p) : RB p (.returned (.bool false)) := ⟨false, rfl, ⟨fun z => (by cases z), fun q => absurd q h⟩⟩
theorem Blk.other {w : World} {b c j : Nat} {u : Value} {cs : List Value} (h : Blk w b cs) (hc : c ≠ b) : Blk (w.setCell ⟨c, j, none⟩ u) b cs := fun l hl => by
 have hne : ∀ e : (⟨b, l, none⟩ : Addr) = ⟨c, j, none⟩, False := fun e => by cases e; exact hc rfl
 refine ⟨?_, ?_⟩
 ·rw [World.cell?_setCell_other w ⟨c, j, none⟩ ⟨b, l, none⟩ u (fun e => by cases e; exact hc rfl)]; exact (h l hl).1
 ·simpa using (h l hl).2
theorem Blk.set {w : World} {b : Nat} {cs : List Value} (h : Blk w b cs) (j : Nat) (u : Value) (hj : j < cs.length := by simp) : Blk (w.setCell ⟨b, j, none⟩ u) b (cs.set j u) := fun l hl => by
 rw [List.length_set] at hl
 refine ⟨?_, ?_⟩
 ·by_cases e : l = j
  ·subst e
   rw [List.getElem?_set_self hl]
   have := (h l hl).1
   rw [List.getElem?_eq_getElem hl] at this
   simp [go_sem, this, (h l hl).2]
  ·rw [List.getElem?_set_ne (by omega), World.cell?_setCell_other w ⟨b, j, none⟩ ⟨b, l, none⟩ u (fun e' => by cases e'; exact e rfl)]
   exact (h l hl).1
 ·simpa using (h l hl).2
theorem blk_new (w : World) (cs : List Value) (t : Nat) : Blk (w.alloc (.cells cs.toArray t)) w.heap.size cs := fun j hj => by
 refine ⟨?_, ?_⟩
 ·simp [go_sem]
 ·simp [go_sem]
theorem blkA (w : World) (c0 c1 c2 : List Value) (t0 t1 t2 : Nat) : Blk (((w.alloc (.cells c0.toArray t0)).alloc (.cells c1.toArray t1)).alloc (.cells c2.toArray t2)) w.heap.size c0 :=
 ((blk_new w c0 t0).below (below_alloc _ _) (by simp)).below (below_alloc _ _) (by simp; omega)
theorem blkB (w : World) (c0 c1 c2 : List Value) (t0 t1 t2 : Nat) : Blk (((w.alloc (.cells c0.toArray t0)).alloc (.cells c1.toArray t1)).alloc (.cells c2.toArray t2)) (w.heap.size + 1) c1 := by
 have := blk_new (w.alloc (.cells c0.toArray t0)) c1 t1
 rw [show (w.alloc (.cells c0.toArray t0)).heap.size = w.heap.size + 1 by simp] at this
 exact this.below (below_alloc _ _) (by simp)
theorem blkC (w : World) (c0 c1 c2 : List Value) (t0 t1 t2 : Nat) : Blk (((w.alloc (.cells c0.toArray t0)).alloc (.cells c1.toArray t1)).alloc (.cells c2.toArray t2)) (w.heap.size + 1 + 1) c2 := by
 have := blk_new ((w.alloc (.cells c0.toArray t0)).alloc (.cells c1.toArray t1)) c2 t2
 rw [show ((w.alloc (.cells c0.toArray t0)).alloc (.cells c1.toArray t1)).heap.size = w.heap.size + 1 + 1 by simp] at this
 exact this
theorem blkD (w : World) (c0 c1 : List Value) (t0 t1 : Nat) : Blk ((w.alloc (.cells c0.toArray t0)).alloc (.cells c1.toArray t1)) (w.heap.size + 1) c1 := by
 have := blk_new (w.alloc (.cells c0.toArray t0)) c1 t1
 rw [show (w.alloc (.cells c0.toArray t0)).heap.size = w.heap.size + 1 by simp] at this
 exact this
theorem infoInt : (Tryz.prog.info? 3).map (fun i => (i.zero, i.size, i.bytes)) = some (some (.int .i64 0), 1, 8) := by kernel_rfl
structure Cel where
 tb : Int
 ky : Int
 vl : Int
 gn : Bool
def celV (c : Cel) : List Value := [.int .i64 c.tb, .int .i64 c.ky, .int .i64 c.vl, .bool c.gn]
def CC (B : Nat) (w : World) (cs : List Value) (c : Cel) : Prop := cs = celV c
theorem liesC : Lies 4 CC := ⟨fun h => by rw [h]; rfl, fun h _ => h, fun h _ => h, fun h _ => h⟩
theorem oneC : ∀ {B : Nat} {w : World} {cs : List Value} {x : Cel}, CC B w cs x → ∀ u ∈ cs, u.oneCell' = true := fun h u hu => by
 rw [h] at hu
 unfold celV at hu
 simp at hu
 rcases hu with rfl | rfl | rfl | rfl <;> rfl
theorem cel_at {B : Nat} {w : World} {a : Option Addr} {n c : Nat} {us : List Cel} (h : RS 4 CC B w (.slice a n c) us) (hp : 0 < us.length) : ∃ g o, a = some ⟨g, o, none⟩ ∧ B ≤ g ∧ g < w.heap.size ∧ ∀ j (hj : j < us.length), w.cell? ⟨g, o + j * 4, none⟩ = some (.int .i64 us[j].tb) ∧ w.cell? ⟨g, o + j * 4 + 1, none⟩ = some (.int .i64 us[j].ky) ∧ w.cell? ⟨g, o + j * 4 + 2, none⟩ = some (.int .i64 us[j].vl) ∧ w.cell? ⟨g, o + j * 4 + 3, none⟩ = some (.bool us[j].gn) := by
 obtain ⟨a', c', he, hh⟩ := h
 obtain ⟨g, o, e2, h1, h2, h3⟩ := hh hp
 simp only [Value.slice.injEq] at he
 refine ⟨g, o, he.1.trans e2, h1, h2, fun j hj => ?_⟩
 obtain ⟨cs, hc, hcell⟩ := h3 j hj
 cases hc
 exact ⟨hcell 0 (by omega), hcell 1 (by omega), hcell 2 (by omega), hcell 3 (by omega)⟩
def hits (tb ky : Int) (c : Cel) : Bool := c.tb == tb && c.ky == ky
def newC (cs : List Cel) (tb ky : Int) : Option Cel := (cs.filter (hits tb ky)).getLast?
theorem newC_hit {cs : List Cel} {tb ky : Int} {k : Nat} (hk : k < cs.length) (hh : hits tb ky cs[k] = true) (hn : ∀ c ∈ cs.drop (k + 1), hits tb ky c = false) : newC cs tb ky = some cs[k] := by
 have e : cs = cs.take k ++ cs[k] :: cs.drop (k + 1) := by
  rw [List.getElem_cons_drop, List.take_append_drop]
 have h2 : (cs.drop (k + 1)).filter (hits tb ky) = [] := List.filter_eq_nil_iff.2 (fun c hc => by rw [hn c hc]; simp)
 unfold newC
 have e3 : cs.filter (hits tb ky) = (cs.take k).filter (hits tb ky) ++ [cs[k]] := by
  conv => lhs; rw [e]
  rw [List.filter_append, List.filter_cons, hh, h2]
  simp
 rw [e3]
 simp
theorem newC_none {cs : List Cel} {tb ky : Int} (hn : ∀ c ∈ cs, hits tb ky c = false) : newC cs tb ky = none := by
 unfold newC
 rw [List.filter_eq_nil_iff.2 (fun c hc => by rw [hn c hc]; simp)]
 rfl
theorem drop_step {α : Type} {xs : List α} {P : α → Prop} {k : Nat} (hlt : k < xs.length) (h : ∀ x ∈ xs.drop (k + 1), P x) (z : P xs[k]) : ∀ x ∈ xs.drop k, P x := fun t ht => by
 rw [← List.getElem_cons_drop hlt] at ht
 rcases List.mem_cons.1 ht with rfl | h'
 ·exact z
 ·exact h t h'
def celA : Option Cel → Value
 | some c => .agg #[.int .i64 c.tb, .int .i64 c.ky, .int .i64 c.vl, .bool c.gn]
 | none => .agg #[.int .i64 0, .int .i64 0, .int .i64 0, .bool false]
set_option maxHeartbeats 4000000 in
theorem newest_spec (a : Option Addr) (ca : Nat) (cs : List Cel) (tb ky : Int) (w : World) (hn : cs.length ≤ 1048576) (ha : RS 4 CC 0 w (.slice a cs.length ca) cs) :
 Calls Tryz.prog 57 #[.slice a cs.length ca, .int .i64 tb, .int .i64 ky] w fun e w' => e = .returned (.tuple #[celA (newC cs tb ky), .bool (newC cs tb ky).isSome]) ∧ Below w.heap.size w w' := by
 have HR := hid ha
 clear ha
 have hw0 : IntKind.i64.wrap ((cs.length : Int) - 1) = (cs.length : Int) - 1 := by simp only [IntKind.wrap_i64, wrap64]; omega
 go_enter Tryz.func57, Tryz.ntmps57
 go_wp2
 go_loopw [8] (fun iv wr => ∃ k : Nat, k ≤ cs.length ∧ iv = .int .i64 ((k : Int) - 1) ∧ Hid (∀ c ∈ cs.drop k, hits tb ky c = false) ∧ wr = w.alloc (.cells #[.int .i64 0, .int .i64 0, .int .i64 0, .bool false] 106)) (fun iv _ => ((intOf iv) + 1).toNat)
 case atStart => exact ⟨cs.length, Nat.le_refl _, rfl, (fun c h => by simp at h : ∀ c ∈ cs.drop cs.length, hits tb ky c = false), rfl⟩
 case round =>
  obtain ⟨k, hk, rfl, HO, rfl⟩ := hrel
  by_cases hlt : 0 < k
  ·obtain ⟨j, rfl⟩ : ∃ j, k = j + 1 := ⟨k - 1, by omega⟩
   have hjl : j < cs.length := by omega
   have hji : (j : Int) < cs.length := by omega
   have hcast : ((j + 1 : Nat) : Int) - 1 = (j : Int) := by omega
   rw [hcast]
   obtain ⟨g, o, rfl, _, hg, hgc⟩ := cel_at HR.out (by omega)
   obtain ⟨c0, c1, c2, c3⟩ := hgc j hjl
   have HST := hid (fun z => drop_step (P := fun c => hits tb ky c = false) hjl HO.out z)
   have HHT := hid (fun z => newC_hit hjl z HO.out)
   have hw1 : IntKind.i64.wrap ((j : Int) - 1) = (j : Int) - 1 := by simp only [IntKind.wrap_i64, wrap64]; omega
   clear hgc HO
   generalize cs[j] = c at c0 c1 c2 c3 HST HHT
   obtain ⟨ct, ck, cv, cg⟩ := c
   simp only at c0 c1 c2 c3
   by_cases h1 : ct = tb
   ·by_cases h2 : ck = ky
    ·have HF := hid (HHT.out (by simp [hits, h1, h2]))
     have b1 : (ct == tb) = true := by simpa using h1
     have b2 : (ck == ky) = true := by simpa using h2
     clear HST HHT h1 h2
     go_wp2
     refine bodyPost_ret (v := .tuple #[.agg #[.int .i64 ct, .int .i64 ck, .int .i64 cv, .bool cg], .bool true]) (by simp [results, Tryz.results57, go_sem]) rfl ⟨by rw [HF.out]; rfl, ?_⟩
     exact below_alloc _ _
    ·have HV := hid (HST.out (by simp [hits, h2]))
     have b1 : (ct == tb) = true := by simpa using h1
     have b2 : (ck == ky) = false := by simpa using h2
     clear HST HHT h1 h2
     go_wp2
     go_roundw
     case rel => exact ⟨j, by omega, by first | rfl | go_num, HV, by first | rfl | trivial⟩
     case measure => simp [intOf]
   ·have HV := hid (HST.out (by simp [hits, h1]))
    have b1 : (ct == tb) = false := by simpa using h1
    clear HST HHT h1
    go_wp2
    go_roundw
    case rel => exact ⟨j, by omega, by first | rfl | go_num, HV, by first | rfl | trivial⟩
    case measure => simp [intOf]
  ·have hk0 : k = 0 := by omega
   subst hk0
   have HF := hid (newC_none (cs := cs) (tb := tb) (ky := ky) (by simpa using HO.out))
   clear HO
   go_wp2
   refine bodyPost_ret (v := .tuple #[.agg #[.int .i64 0, .int .i64 0, .int .i64 0, .bool false], .bool false]) (by simp [results, Tryz.results57, go_sem]) rfl ⟨by rw [HF.out]; rfl, ?_⟩
   exact below_alloc _ _
structure Com where
 st : Int
 cs : List Cel
def CCm (B : Nat) (w : World) (vs : List Value) (c : Com) : Prop := ∃ cv, vs = [.int .i64 c.st, cv] ∧ RS 4 CC B w cv c.cs
theorem liesM : Lies 2 CCm :=
 ⟨fun ⟨_, h, _⟩ => by rw [h]; rfl, fun ⟨a, h, r⟩ hd => ⟨a, h, r.mono liesC hd⟩, fun ⟨a, h, r⟩ hb => ⟨a, h, r.below liesC hb⟩, fun ⟨a, h, r⟩ hc => ⟨a, h, r.set liesC hc⟩⟩
def BM (cms : List Com) : Prop := cms.length ≤ 1048576 ∧ ∀ c ∈ cms, c.cs.length ≤ 1048576
def comN (bg tb ky : Int) (c : Com) : Option Cel := if bg < c.st then none else newC c.cs tb ky
def seenC (cms : List Com) (bg tb ky : Int) : Option Cel := cms.reverse.findSome? (comN bg tb ky)
theorem seenC_hit {cms : List Com} {bg tb ky : Int} {k : Nat} {c : Cel} (hk : k < cms.length) (hh : comN bg tb ky cms[k] = some c) (hn : ∀ x ∈ cms.drop (k + 1), comN bg tb ky x = none) : seenC cms bg tb ky = some c := by
 have e : cms = cms.take k ++ cms[k] :: cms.drop (k + 1) := by
  rw [List.getElem_cons_drop, List.take_append_drop]
 unfold seenC
 conv => lhs; rw [e]
 rw [List.reverse_append, List.findSome?_append, List.reverse_cons, List.findSome?_append]
 have h2 : (cms.drop (k + 1)).reverse.findSome? (comN bg tb ky) = none := List.findSome?_eq_none_iff.2 (fun x hx => hn x (List.mem_reverse.1 hx))
 rw [h2]
 simp [hh]
theorem seenC_none {cms : List Com} {bg tb ky : Int} (hn : ∀ x ∈ cms, comN bg tb ky x = none) : seenC cms bg tb ky = none := by
 unfold seenC
 exact List.findSome?_eq_none_iff.2 (fun x hx => hn x (List.mem_reverse.1 hx))
def telC : Option Cel → Int × Bool
 | some c => (c.vl, !c.gn)
 | none => (0, false)
def seesF (cms : List Com) (bg : Int) (own : List Cel) (tb ky : Int) : Int × Bool := telC ((newC own tb ky).or (seenC cms bg tb ky))
theorem sees_own {cms : List Com} {bg tb ky : Int} {own : List Cel} {c : Cel} (h : newC own tb ky = some c) : seesF cms bg own tb ky = (c.vl, !c.gn) := by
 unfold seesF; rw [h]; rfl
theorem sees_com {cms : List Com} {bg tb ky : Int} {own : List Cel} (h : newC own tb ky = none) : seesF cms bg own tb ky = telC (seenC cms bg tb ky) := by
 unfold seesF; rw [h]; rfl
set_option maxHeartbeats 8000000 in
theorem sees_spec (bb : Nat) (ck : Int) (ma : Option Addr) (mc : Nat) (hv tv rv sv : Value) (op : Bool) (md bg : Int) (oa : Option Addr) (oc : Nat) (cms : List Com) (own : List Cel) (tb ky : Int) (w : World) (hm : BM cms) (ho : own.length ≤ 1048576) (hbb : bb < w.heap.size)
 (hB : Blk w bb [.int .i64 ck, .slice ma cms.length mc, hv, tv]) (hms : RS 2 CCm 0 w (.slice ma cms.length mc) cms) (hown : RS 4 CC 0 w (.slice oa own.length oc) own) :
 Calls Tryz.prog 38 #[.pointer (some ⟨bb, 0, none⟩), .agg #[.bool op, .int .i64 md, .int .i64 bg, .slice oa own.length oc, rv, sv], .int .i64 tb, .int .i64 ky] w fun e w' => e = .returned (.tuple #[.int .i64 (seesF cms bg own tb ky).1, .bool (seesF cms bg own tb ky).2]) ∧ Below w.heap.size w w' := by
 have bw := below_alloc w (.cells #[.bool op, .int .i64 md, .int .i64 bg, .slice oa own.length oc, rv, sv] 70)
 have K5 := hid (blk_new w [.bool op, .int .i64 md, .int .i64 bg, .slice oa own.length oc, rv, sv] 70)
 have hz5 : w.heap.size < (w.alloc (.cells #[.bool op, .int .i64 md, .int .i64 bg, .slice oa own.length oc, rv, sv] 70)).heap.size := by simp
 have h1 := newest_spec oa oc own tb ky (w.alloc (.cells #[.bool op, .int .i64 md, .int .i64 bg, .slice oa own.length oc, rv, sv] 70)) ho (hown.below liesC bw)
 have HB := hid hB
 have HMS := hid hms
 have hml := hm.1
 have HMC := hid hm.2
 clear hown hB hms hm
 go_enter Tryz.func38, Tryz.ntmps38
 go_wp2_with (go_at_call 57; fail)
 refine h1.mono ?_
 rintro e w1 ⟨rfl, hb1⟩
 have bw1 := bw.trans (hb1.mono bw.size)
 replace K5 := hid (K5.out.below hb1 hz5)
 replace hz5 : w.heap.size < w1.heap.size := Nat.lt_of_lt_of_le hz5 hb1.size
 clear h1 hb1 bw
 cases hnc : newC own tb ky with
 | some c =>
   have HF := hid (sees_own (cms := cms) (bg := bg) hnc)
   obtain ⟨ct, ckk, cv, cg⟩ := c
   simp only [celA, Option.isSome]
   clear hnc K5
   have bw2 := bw1.alloc bw1.size (.cells #[.int .i64 ct, .int .i64 ckk, .int .i64 cv, .bool cg] 106)
   go_wp2
   go_quiet (fail)
   go_wp2
   refine bodyPost_ret (v := .tuple #[.int .i64 cv, .bool (!cg)]) (by simp [results, Tryz.results38, go_sem]) rfl ⟨by rw [HF.out], ?_⟩
   exact bw2.trans ((below_drewNt _ _).mono bw2.size)
 | none =>
   have HF := hid (sees_com (cms := cms) (bg := bg) hnc)
   simp only [celA, Option.isSome]
   clear hnc
   have bw2 := bw1.alloc bw1.size (.cells #[.int .i64 0, .int .i64 0, .int .i64 0, .bool false] 106)
   have K5b := hid (K5.out.below (below_alloc w1 (.cells #[.int .i64 0, .int .i64 0, .int .i64 0, .bool false] 106)) hz5)
   have KC := hid (blk_new w1 [.int .i64 0, .int .i64 0, .int .i64 0, .bool false] 106)
   have b1 : (w1.alloc (.cells #[.int .i64 0, .int .i64 0, .int .i64 0, .bool false] 106)).cell? ⟨bb, 1, none⟩ = some (.slice ma cms.length mc) := (bw2.cell (p := ⟨bb, 1, none⟩) hbb).trans (HB.out 1 (by simp)).1
   have hw0 : IntKind.i64.wrap ((cms.length : Int) - 1) = (cms.length : Int) - 1 := by simp only [IntKind.wrap_i64, wrap64]; omega
   have hz1 : w1.heap.size < (w1.alloc (.cells #[.int .i64 0, .int .i64 0, .int .i64 0, .bool false] 106)).heap.size := by simp
   have hzz : w.heap.size < (w1.alloc (.cells #[.int .i64 0, .int .i64 0, .int .i64 0, .bool false] 106)).heap.size := by simp; omega
   clear K5
   have hbw1 : bb < w1.heap.size := by have := bw1.size; omega
   go_wp2
   clear b1
   obtain ⟨gc, hgc⟩ : ∃ x, x = w1.heap.size := ⟨_, rfl⟩
   rw [← hgc] at KC hz1 hz5
   rw [← hgc]
   clear hgc
   go_loopw [11, 12] (fun bv iv wr => ∃ (k : Nat) (fb : Bool) (x0 x1 x2 : Int) (x3 : Bool), k ≤ cms.length ∧ bv = .bool fb ∧ iv = .int .i64 ((k : Int) - 1) ∧ Hid (∀ x ∈ cms.drop k, comN bg tb ky x = none) ∧ Hid (Blk wr w.heap.size [.bool op, .int .i64 md, .int .i64 bg, .slice oa own.length oc, rv, sv]) ∧ Hid (Blk wr gc [.int .i64 x0, .int .i64 x1, .int .i64 x2, .bool x3]) ∧ w.heap.size < wr.heap.size ∧ gc < wr.heap.size ∧ Below w.heap.size w wr) (fun _ iv _ => ((intOf iv) + 1).toNat)
   case atStart => exact ⟨cms.length, false, 0, 0, 0, false, Nat.le_refl _, rfl, rfl, (fun c h => by simp at h : ∀ x ∈ cms.drop cms.length, comN bg tb ky x = none), K5b, KC, hzz, hz1, bw2⟩
   case round =>
    clear K5b KC hzz hz1 bw2 bw1
    obtain ⟨k, fb, x0, x1, x2, x3, hk, rfl, rfl, HO, K5, KC, hzt, hzc, hbel⟩ := hrel
    have hbs := hbel.size
    by_cases hlt : 0 < k
    ·obtain ⟨j, rfl⟩ : ∃ j, k = j + 1 := ⟨k - 1, by omega⟩
     have hjl : j < cms.length := by omega
     have hji : (j : Int) < cms.length := by omega
     have hcast : ((j + 1 : Nat) : Int) - 1 = (j : Int) := by omega
     rw [hcast]
     obtain ⟨a', c', he, hh⟩ := id HMS.out
     simp only [Value.slice.injEq] at he
     obtain ⟨g, o, e2, _, hg, h3⟩ := hh (by omega)
     obtain ⟨vs, hC, hcell⟩ := h3 j hjl
     obtain ⟨cv, rfl, hrc⟩ := hC
     rw [e2] at he
     obtain ⟨rfl, _, rfl⟩ := he
     have c0 : wr.cell? ⟨g, o + j * 2, none⟩ = some (.int .i64 cms[j].st) := (hbel.cell (p := ⟨g, o + j * 2, none⟩) hg).trans (hcell 0 (by omega))
     have c1 : wr.cell? ⟨g, o + j * 2 + 1, none⟩ = some cv := (hbel.cell (p := ⟨g, o + j * 2 + 1, none⟩) hg).trans (hcell 1 (by omega))
     have hgw : g < wr.heap.size := by omega
     have b1 : wr.cell? ⟨bb, 1, none⟩ = some (.slice (some ⟨g, o, none⟩) cms.length mc) := (hbel.cell (p := ⟨bb, 1, none⟩) hbb).trans (HB.out 1 (by simp)).1
     have hbw : bb < wr.heap.size := by omega
     have t2 : wr.cell? ⟨w.heap.size, 2, none⟩ = some (.int .i64 bg) := (K5.out 2 (by simp)).1
     have HST := hid (fun z => drop_step (P := fun c => comN bg tb ky c = none) hjl HO.out z)
     have HHT := hid (fun c z => seenC_hit (c := c) hjl z HO.out)
     have HRC := hid (hrc.below liesC hbel)
     have HLC := hid (HMC.out cms[j] (List.getElem_mem hjl))
     have hw1 : IntKind.i64.wrap ((j : Int) - 1) = (j : Int) - 1 := by simp only [IntKind.wrap_i64, wrap64]; omega
     obtain ⟨ea, ec, hcv, _⟩ := id hrc
     subst hcv
     clear h3 hh hcell hrc HO
     generalize cms[j] = m at c0 c1 HST HHT HRC HLC
     by_cases h1 : bg < m.st
     ·have HV := hid (HST.out (by unfold comN; rw [if_pos h1]))
      clear HST HHT HRC
      go_wp2
      have g0 : decide (bg < m.st) = true := decide_eq_true (by omega)
      go_quiet (fail)
      go_wp2
      go_roundw
      case rel => exact ⟨j, fb, x0, x1, x2, x3, by omega, rfl, by first | rfl | go_num, HV, hid (K5.out.below (below_drewNt _ _) hzt), hid (KC.out.below (below_drewNt _ _) hzc), by simpa using hzt, by simpa using hzc, hbel.trans ((below_drewNt _ _).mono hbs)⟩
      case measure => simp [intOf]
     ·have hN : comN bg tb ky m = newC m.cs tb ky := by unfold comN; rw [if_neg h1]
      have hq := fun n => newest_spec ea ec m.cs tb ky (wr.drewN n) HLC.out (HRC.out.below liesC (below_drewNt _ _))
      have HQ := hid hq
      clear hq
      rw [hN] at HST HHT
      clear hN
      go_wp2
      have g0 : decide (bg < m.st) = false := decide_eq_false (by omega)
      go_quiet (fail)
      go_wp2_with (go_at_call 57; fail)
      refine (HQ.out _).mono ?_
      rintro e w3 ⟨rfl, hb3⟩
      replace hb3 : Below wr.heap.size wr w3 := (below_drewNt _ _).trans (hb3.mono (below_drewNt _ _).size)
      have K5c := hid (K5.out.below hb3 hzt)
      have KCc := hid (KC.out.below hb3 hzc)
      have bw3 : Below w.heap.size w w3 := hbel.trans (hb3.mono hbs)
      have hz3 : gc < w3.heap.size := Nat.lt_of_lt_of_le hzc hb3.size
      have hzt3 : w.heap.size < w3.heap.size := Nat.lt_of_lt_of_le hzt hb3.size
      have kc0 : w3.cell? ⟨gc, 0, none⟩ = some (.int .i64 x0) := (KCc.out 0 (by simp)).1
      have kc1 : w3.cell? ⟨gc, 1, none⟩ = some (.int .i64 x1) := (KCc.out 1 (by simp)).1
      have kc2 : w3.cell? ⟨gc, 2, none⟩ = some (.int .i64 x2) := (KCc.out 2 (by simp)).1
      have kc3 : w3.cell? ⟨gc, 3, none⟩ = some (.bool x3) := (KCc.out 3 (by simp)).1
      have kf0 : w3.frozen? ⟨gc, 0, none⟩ = false := (KCc.out 0 (by simp)).2
      have kf1 : w3.frozen? ⟨gc, 1, none⟩ = false := (KCc.out 1 (by simp)).2
      have kf2 : w3.frozen? ⟨gc, 2, none⟩ = false := (KCc.out 2 (by simp)).2
      have kf3 : w3.frozen? ⟨gc, 3, none⟩ = false := (KCc.out 3 (by simp)).2
      clear HQ hb3 c0 c1 b1 t2
      have HSET : Hid (∀ y0 y1 y2 y3, Blk ((((w3.setCell ⟨gc, 0, none⟩ y0).setCell ⟨gc, 1, none⟩ y1).setCell ⟨gc, 2, none⟩ y2).setCell ⟨gc, 3, none⟩ y3) gc [y0, y1, y2, y3] ∧ Blk ((((w3.setCell ⟨gc, 0, none⟩ y0).setCell ⟨gc, 1, none⟩ y1).setCell ⟨gc, 2, none⟩ y2).setCell ⟨gc, 3, none⟩ y3) w.heap.size [.bool op, .int .i64 md, .int .i64 bg, .slice oa own.length oc, rv, sv] ∧ Below w.heap.size w ((((w3.setCell ⟨gc, 0, none⟩ y0).setCell ⟨gc, 1, none⟩ y1).setCell ⟨gc, 2, none⟩ y2).setCell ⟨gc, 3, none⟩ y3) ∧ ((((w3.setCell ⟨gc, 0, none⟩ y0).setCell ⟨gc, 1, none⟩ y1).setCell ⟨gc, 2, none⟩ y2).setCell ⟨gc, 3, none⟩ y3).heap.size = w3.heap.size) := hid (fun y0 y1 y2 y3 => by
       have hge : ∀ i, w.heap.size ≤ (⟨gc, i, none⟩ : Addr).block := fun i => Nat.le_of_lt hz5
       refine ⟨(((KCc.out.set 0 y0).set 1 y1).set 2 y2).set 3 y3, (((K5c.out.other (by omega)).other (by omega)).other (by omega)).other (by omega), (((bw3.setCell (hge 0) y0).setCell (hge 1) y1).setCell (hge 2) y2).setCell (hge 3) y3, by simp⟩)
      cases hnm : newC m.cs tb ky with
      | some c =>
        have HG := hid (HHT.out c hnm)
        obtain ⟨ct, ckk, cv, cg⟩ := c
        simp only [celA, Option.isSome]
        clear hnm HST HHT HRC
        obtain ⟨_, _, bz, _⟩ := HSET.out (.int .i64 ct) (.int .i64 ckk) (.int .i64 cv) (.bool cg)
        clear HSET
        go_wp2
        go_quiet (fail)
        go_wp2
        refine bodyPost_ret (v := .tuple #[.int .i64 cv, .bool (!cg)]) (by simp [results, Tryz.results38, go_sem]) rfl ⟨by rw [HF.out, HG.out]; rfl, ?_⟩
        exact bz.trans ((below_drewNt _ _).mono bz.size)
      | none =>
        have HV := hid (HST.out hnm)
        simp only [celA, Option.isSome]
        clear hnm HST HHT HRC
        obtain ⟨za, zb, bz, zs⟩ := HSET.out (.int .i64 0) (.int .i64 0) (.int .i64 0) (.bool false)
        have ZA := hid za
        have ZB := hid zb
        have ZS := hid zs
        clear HSET za zb zs
        go_wp2
        go_roundw
        case rel => exact ⟨j, false, 0, 0, 0, false, by omega, rfl, by first | rfl | go_num, HV, ZB, ZA, by rw [ZS.out]; exact hzt3, by rw [ZS.out]; exact hz3, bz⟩
        case measure => simp [intOf]
    ·have hk0 : k = 0 := by omega
     subst hk0
     have HG := hid (seenC_none (cms := cms) (bg := bg) (tb := tb) (ky := ky) (by simpa using HO.out))
     clear HO
     go_wp2
     refine bodyPost_ret (v := .tuple #[.int .i64 0, .bool false]) (by simp [results, Tryz.results38, go_sem]) rfl ⟨by rw [HF.out, HG.out]; rfl, ?_⟩
     exact hbel
end Go.Proofs.YtblkgicbimflhaaGreat
