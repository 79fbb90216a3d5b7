import Derived.Test.YtcgnkcehjcednaaDoorJR2
import Derived.Test.YtcgnkcehjcednaaDoorJA6
import Derived.Deep.CutRange
import Derived.Deep.DeepCutAuto
namespace Go.Proofs.YtcgnkcehjcednaaDoor.Dr
open Go.ChangeShapes Go.WideShapes Go.ChangeAt Go.RowKit
open Ar (inD)
set_option linter.unusedVariables false
set_option linter.unusedSimpArgs false
set_option maxRecDepth 100000
theorem Upd.thenB {c B : Nat} {w w1 w2 : World} (h : Upd c w w1) (hb : Below B w1 w2) (hB : w.heap.size ≤ B) : Upd c w w2 :=
  ⟨hb.os.trans h.os, hb.tape.trans h.tape, hb.output.trans h.output, Nat.le_trans h.size hb.size, fun k hk hc => (hb.block k (Nat.lt_of_lt_of_le hk hB)).trans (h.block k hk hc)⟩
theorem ucell {c : Nat} {W w1 : World} (hb : Upd c W w1) : (∀ b o, b < W.heap.size → b ≠ c → w1.cell? ⟨b, o, none⟩ = W.cell? ⟨b, o, none⟩) ∧ (∀ b o, b < W.heap.size → b ≠ c → w1.frozen? ⟨b, o, none⟩ = W.frozen? ⟨b, o, none⟩) :=
  ⟨fun b o h h' => hb.cell (p := ⟨b, o, none⟩) h h', fun b o h h' => hb.frozen (p := ⟨b, o, none⟩) h h'⟩
/-- A block that holds a value, free to be written. -/
structure Holds (w : World) (b : Nat) (k n : Int) (s : ByteArray) : Prop where
  c0 : w.cell? ⟨b, 0, none⟩ = some (.int .i64 k)
  c1 : w.cell? ⟨b, 1, none⟩ = some (.int .i64 n)
  c2 : w.cell? ⟨b, 2, none⟩ = some (.string s)
  f0 : w.frozen? ⟨b, 0, none⟩ = false
  f1 : w.frozen? ⟨b, 1, none⟩ = false
  f2 : w.frozen? ⟨b, 2, none⟩ = false
  lt : b < w.heap.size
theorem Holds.same {w w' : World} {b : Nat} {k n : Int} {s : ByteArray} (h : Holds w b k n s) (u : w'.heap[b]? = w.heap[b]?) (hz : b < w'.heap.size) : Holds w' b k n s :=
  ⟨(World.cell?_of_block (w := w) (a := ⟨b, 0, none⟩) u).trans h.c0, (World.cell?_of_block (w := w) (a := ⟨b, 1, none⟩) u).trans h.c1, (World.cell?_of_block (w := w) (a := ⟨b, 2, none⟩) u).trans h.c2,
   (World.frozen?_of_block (w := w) (a := ⟨b, 0, none⟩) u).trans h.f0, (World.frozen?_of_block (w := w) (a := ⟨b, 1, none⟩) u).trans h.f1, (World.frozen?_of_block (w := w) (a := ⟨b, 2, none⟩) u).trans h.f2, hz⟩
theorem Holds.upd {c : Nat} {w w' : World} {b : Nat} {k n : Int} {s : ByteArray} (h : Holds w b k n s) (u : Upd c w w') (hb : b ≠ c) : Holds w' b k n s := h.same (u.block b h.lt hb) (Nat.lt_of_lt_of_le h.lt u.size)
theorem Holds.below {B : Nat} {w w' : World} {b : Nat} {k n : Int} {s : ByteArray} (h : Holds w b k n s) (u : Below B w w') (hb : b < B) : Holds w' b k n s := h.same (u.block b hb) (Nat.lt_of_lt_of_le h.lt u.size)
theorem Holds.new (w : World) (k n : Int) (s : ByteArray) : Holds (w.alloc (.cells #[.int .i64 k, .int .i64 n, .string s] 26)) w.heap.size k n s :=
  ⟨by simp [go_sem], by simp [go_sem], by simp [go_sem], by simp [go_sem], by simp [go_sem], by simp [go_sem], by simp⟩
theorem own_upd {w w' : World} {c b e s n : Nat} {v : Value} {xs : List Value} (h : w.ownsRow b e s v n xs) (u : Upd c w w') (hc : c < b) : w'.ownsRow b e s v n xs := by
  obtain ⟨h1, h2⟩ := h
  refine ⟨h1, ?_⟩
  rcases h2 with a | ⟨g, cap, cur, e1, e2, e3, e4⟩
  · exact .inl a
  · exact .inr ⟨g, cap, cur, e1, e2, (u.block g (Array.getElem?_eq_some_iff.1 e3).1 (by omega)).trans e3, e4⟩
theorem own_bel {w w' : World} {b e s n : Nat} {v : Value} {xs : List Value} (h : w.ownsRow b e s v n xs) (u : Below w.heap.size w w') : w'.ownsRow b e s v n xs := by
  obtain ⟨h1, h2⟩ := h
  refine ⟨h1, ?_⟩
  rcases h2 with a | ⟨g, cap, cur, e1, e2, e3, e4⟩
  · exact .inl a
  · exact .inr ⟨g, cap, cur, e1, e2, (u.block g (Array.getElem?_eq_some_iff.1 e3).1).trans e3, e4⟩
theorem cur_new (w : World) (v0 : Option Addr) (len cap : Nat) (c : Nat) (hc : c = w.heap.size) (hl : len ≤ 1048576) (hb : ∀ j, j < len → ∃ g o b, v0 = some ⟨g, o, none⟩ ∧ g < w.heap.size ∧ w.cell? ⟨g, o + j, none⟩ = some (.int .u8 b) ∧ 0 ≤ b ∧ b < 256) :
    IsCur (w.alloc (.cells #[.slice v0 len cap, .int .i64 0, .int .i64 0, .int .i64 0] 90)) c 0 := by
  subst hc
  refine ⟨v0, len, cap, 0, 0, 0, ⟨by simp [go_sem], by simp [go_sem], by simp [go_sem], by simp [go_sem], by simp [go_sem], by simp [go_sem], by omega, by omega, by omega, by omega, hl, by simp, ?_⟩⟩
  intro j hj
  obtain ⟨g, o, b, e1, e2, e3, e4, e5⟩ := hb j hj
  exact ⟨g, o, b, e1, e2, ((below_alloc w _).cell (p := ⟨g, o + j, none⟩) e2).trans e3, e4, e5⟩
/-- A number that is valid for its kind. -/
def inK (k x : Int) : Prop := (k = 1 ∧ inI x) ∨ (k = 2 ∧ inD x)
def DrawnN (k : Int) (c : Nat) (A : Int) (w : World) (e : Ending) (w' : World) : Prop := ∃ x : Int, inK k x ∧ e = .returned (.agg #[.int .i64 k, .int .i64 x, .string ⟨#[]⟩]) ∧ IsCur w' c A ∧ Upd c w w'
theorem drawnN_mk {c : Nat} {A k x : Int} {w w1 w2 : World} (hlt : c < w.heap.size) (hx : inK k x) (hc : IsCur w1 c A) (hu : Upd c w w1) (hb : Below w.heap.size w1 w2) : DrawnN k c A w (.returned (.agg #[.int .i64 k, .int .i64 x, .string ⟨#[]⟩])) w2 :=
  ⟨x, hx, rfl, hc.below hb hlt, hu.thenB hb (Nat.le_refl _)⟩
set_option maxHeartbeats 4000000 in
theorem drawNum_any (c : Nat) (A k : Int) (w : World) (h : IsCur w c A) (hA : A ≤ 1000000) (hk : k = 1 ∨ k = 2) : Calls Tryd.prog 84 #[.pointer (some ⟨c, 0, none⟩), .int .i64 k] w fun e w' => DrawnN k c (A + 2) w e w' := by
  have hlt := h.lt
  have hne : w.heap.size ≠ c := by omega
  rcases hk with rfl | rfl
  · go_enter Tryd.func84, Tryd.ntmps84
    go_wp2_with fail
    refine (drawInt_any c A _ (cur_alloc h _) (by omega)).mono ?_
    rintro e w1 ⟨x, hx, rfl, hc1, hu1⟩
    have hz1 : w.heap.size < w1.heap.size := by have := hu1.size; simp at this; omega
    obtain ⟨hk, hf⟩ := ucell hu1
    have HU : Hid (Upd c w w1) := (upd_alloc c w _).trans hu1
    have HX : Hid (inK 1 x) := .inl ⟨rfl, hx⟩
    clear h hx hu1
    go_wp2
    refine bodyPost_ret (v := .agg #[.int .i64 1, .int .i64 x, .string ⟨#[]⟩]) (by simp [results, Tryd.results84, go_sem, hk, hf, hz1, hne]) rfl ?_
    refine drawnN_mk hlt HX.out hc1 HU.out ?_
    (go_light; repeat (first | with_reducible exact Below.refl _ _ | (with_reducible refine Below.setCell ?_ ?_ _; rotate_left; (focus first | (simp; done) | (simp; omega) | omega)) | (with_reducible refine Below.alloc ?_ ?_ _; rotate_left; (focus first | (simp; done) | (simp; omega) | omega)) | with_reducible refine Below.drew ?_))
  · go_enter Tryd.func84, Tryd.ntmps84
    go_wp2_with fail
    refine (drawDec_any c A _ (cur_alloc h _) (by omega)).mono ?_
    rintro e w1 ⟨x, hx, rfl, hc1, hu1⟩
    have hz1 : w.heap.size < w1.heap.size := by have := hu1.size; simp at this; omega
    obtain ⟨hk, hf⟩ := ucell hu1
    have HU : Hid (Upd c w w1) := (upd_alloc c w _).trans hu1
    have HX : Hid (inK 2 x) := .inr ⟨rfl, hx⟩
    clear h hx hu1
    go_wp2
    refine bodyPost_ret (v := .agg #[.int .i64 2, .int .i64 x, .string ⟨#[]⟩]) (by simp [results, Tryd.results84, go_sem, hk, hf, hz1, hne]) rfl ?_
    refine drawnN_mk hlt HX.out hc1 HU.out ?_
    (go_light; repeat (first | with_reducible exact Below.refl _ _ | (with_reducible refine Below.setCell ?_ ?_ _; rotate_left; (focus first | (simp; done) | (simp; omega) | omega)) | (with_reducible refine Below.alloc ?_ ?_ _; rotate_left; (focus first | (simp; done) | (simp; omega) | omega)) | with_reducible refine Below.drew ?_))
end Go.Proofs.YtcgnkcehjcednaaDoor.Dr
