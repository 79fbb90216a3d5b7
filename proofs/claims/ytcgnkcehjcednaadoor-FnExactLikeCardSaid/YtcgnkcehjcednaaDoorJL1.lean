import Derived.Test.YtcgnkcehjcednaaDoorProg
import Derived.Test.YtcgnkcehjcednaaDoorP2
import Derived.Test.YtcgnkcehjcednaaDoorJH2
import Derived.WalkKit
import Derived.ProofKit
import Derived.OpenShut
import Derived.WalkLawsBesides
import Derived.Deep.Light
import Derived.WalkSpells
import Derived.Laws.RangeString
import Derived.Laws.RangeAny
import Derived.Lib.OthersKept
namespace Go.Proofs.YtcgnkcehjcednaaDoor
open Go.ChangeShapes Go.WideShapes Go.ChangeAt Go.RowKit
namespace Lk
set_option linter.unusedVariables false
set_option linter.unusedSimpArgs false
set_option maxRecDepth 100000
theorem info21 : (Tryd.prog.info? 21).map (fun i => (i.zero, i.size, i.bytes)) = some (some (.int .i32 0), 1, 4) := by kernel_rfl
theorem info111 : (Tryd.prog.info? 111).map (fun i => (i.zero, i.size, i.bytes)) = some (some (.agg #[.bool false, .bool false, .int .i32 0]), 3, 8) := by kernel_rfl
/-- A row is kept while a string's iterator goes on. -/
theorem row_iter {w : World} {B e size n k pos : Nat} {v : Value} {xs : List Value} {s : ByteArray} (h : w.ownsRow B e size v n xs) (hk : w.heap[k]? = some (.stringIter s pos)) (q : Nat) : (w.iterAt k s q).ownsRow B e size v n xs := by
  obtain ⟨h1, h2⟩ := h
  refine ⟨h1, ?_⟩
  rcases h2 with a | ⟨g, cap, cur, e1, e2, e3, e4⟩
  · exact .inl a
  · have hne : g ≠ k := by intro hc; rw [hc, hk] at e3; cases e3
    exact .inr ⟨g, cap, cur, e1, e2, (Lib.iterAt_other w k g s q hne).trans e3, e4⟩
theorem row_no_iter {w : World} {B e size n k pos : Nat} {v : Value} {xs : List Value} {s : ByteArray} (h : w.ownsRow B e size v n xs) (hk : w.heap[k]? = some (.stringIter s pos)) : some k ≠ v.ownBlock := by
  rcases h.2 with ⟨rfl, _⟩ | ⟨g, cap, cur, rfl, _, e3, _⟩
  · intro hc; cases hc
  · intro hc
    have : k = g := by simpa [Value.ownBlock] using hc
    rw [← this, hk] at e3; cases e3
theorem three_new (w : World) (x y z : Value) (t : TypeId) : ∀ j u, [x, y, z][j]? = some u → (w.alloc (.cells #[x, y, z] t)).cell? ((⟨w.heap.size, 0, none⟩ : Addr).add j) = some u := by
  intro j u hj
  match j, hj with
  | 0, hj => simp at hj; subst hj; simp [Addr.add]
  | 1, hj => simp at hj; subst hj; simp [Addr.add]
  | 2, hj => simp at hj; subst hj; simp [Addr.add]
  | (j + 3), hj => simp at hj
/-- One step of a range over a well formed text. -/
theorem step_ch {s : ByteArray} {b pos : Nat} {acc cs : List Int} (h : pos < s.size) (hb : s.size ≤ pos + b) (hm : (chF s b pos).map (acc ++ ·) = some cs) :
    (chF s (b - 1) (pos + (Utf8.decode s pos).2)).map ((acc ++ [((Utf8.decode s pos).1 : Int)]) ++ ·) = some cs ∧ pos + (Utf8.decode s pos).2 ≤ s.size ∧ 1 ≤ (Utf8.decode s pos).2 := by
  obtain ⟨f, rfl⟩ : ∃ f, b = f + 1 := ⟨b - 1, by omega⟩
  rw [chF, if_pos h] at hm
  by_cases hd : Utf8.decode s pos = (65533, 1)
  · rw [if_pos hd] at hm; cases hm
  · rw [if_neg hd, Option.map_map] at hm
    refine ⟨?_, (width_le s pos h).1, Lib.decode_width_pos s pos h⟩
    rw [Nat.add_sub_cancel, ← hm]
    congr 1
    funext l
    simp
/-- A row that grows beside an iterator in block g. -/
structure Beside (w : World) (s : ByteArray) (g pos : Nat) (e size : Nat) (v : Value) (n : Nat) (xs : List Value) (wr : World) : Prop where
  it : wr.heap[g]? = some (.stringIter s pos)
  own : wr.ownsRow w.heap.size e size v n xs
  bel : Below w.heap.size w wr
theorem Beside.next {w wr : World} {s : ByteArray} {g pos e size n : Nat} {v : Value} {xs : List Value} (h : Beside w s g pos e size v n xs wr) (hg : w.heap.size ≤ g) (q : Nat) : Beside w s g q e size v n xs (wr.iterAt g s q) :=
  ⟨Lib.iterAt_heap wr g s pos q h.it, row_iter h.own h.it q, Lib.below_iterAt h.bel hg s q⟩
theorem Beside.grown {w wr w1 : World} {s : ByteArray} {g pos e size n m : Nat} {v v' : Value} {xs ys : List Value} (h : Beside w s g pos e size v n xs wr) (o : Obj) (hown : w1.ownsRow w.heap.size e size v' m ys) (hgrow : (wr.alloc o).grownBy w1 v.ownBlock) : Beside w s g pos e size v' m ys w1 := by
  have hz := h.bel.size
  have hlt : g < wr.heap.size := (Array.getElem?_eq_some_iff.1 h.it).1
  refine ⟨?_, hown, ?_⟩
  · exact (hgrow.block g (by simp; omega) (row_no_iter h.own h.it)).trans ((Below.heap_alloc _ _ _ hlt).trans h.it)
  · exact (h.bel.alloc hz o).grown hgrow (by simp; omega) (fun j hj => (h.own.lt j hj).1)
def ch32 (l : List Int) : List Value := l.map (Value.int .i32)
def CharsR (s : ByteArray) (cs : List Int) (w : World) (v : Value) (wr : World) : Prop :=
  ∃ (pos b : Nat) (acc : List Int), pos ≤ s.size ∧ s.size ≤ pos + b ∧ acc.length ≤ pos ∧ (chF s b pos).map (acc ++ ·) = some cs ∧ Beside w s w.heap.size pos 21 1 v acc.length (ch32 acc) wr
set_option maxHeartbeats 4000000 in
theorem charsOf_any (s : ByteArray) (cs : List Int) (w : World) (hs : s.size ≤ 1048576) (hc : chars s = some cs) :
    Calls Tryd.prog 42 #[.string s] w fun e w' => ∃ v, e = .returned v ∧ w'.ownsRow w.heap.size 21 1 v cs.length (ch32 cs) ∧ Below w.heap.size w w' := by
  obtain ⟨i0, hi, hz0, hz1, hz2⟩ := info_parts info21
  have HC : Hid (chars s = some cs) := hc
  clear hc
  go_enter Tryd.func42, Tryd.ntmps42
  go_wp2
  go_loopw [3] (fun v wr => CharsR s cs w v wr) (fun _ wr => s.size - wr.iterPos w.heap.size)
  case atStart => exact ⟨0, s.size, [], by omega, by omega, by simp, by rw [← HC.out]; simp [chars], ⟨World.iter_heap w s 0, World.ownsRow_nil _ _ _ _, (Below.refl _ w).alloc (Nat.le_refl _) _⟩⟩
  case round =>
    obtain ⟨pos, b, acc, hp, hb, hacc, hm, hbe⟩ := hrel
    have HM : Hid ((chF s b pos).map (acc ++ ·) = some cs) := hm
    have hmu : wr.iterPos w.heap.size = pos := by simp [World.iterPos, hbe.it]
    clear hm
    by_cases hlt : pos < s.size
    · have hnx : ∀ ty, (Instr.next (.pointer (some ⟨w.heap.size, 0, none⟩)) true ty).run Tryd.prog wr = _ := fun ty => Lib.run_next_any_at wr w.heap.size s pos ty hbe.it hlt
      obtain ⟨S1, S2, S3⟩ := step_ch hlt hb HM.out
      have HS : Hid ((chF s (b - 1) (pos + (Utf8.decode s pos).2)).map ((acc ++ [((Utf8.decode s pos).1 : Int)]) ++ ·) = some cs) := S1
      have hb2 := hbe.next (Nat.le_refl _) (pos + (Utf8.decode s pos).2)
      clear S1 hbe
      generalize (Utf8.decode s pos).2 = K at *
      generalize (Utf8.decode s pos).1 = R at *
      obtain ⟨W, hW⟩ : ∃ W, wr.iterAt w.heap.size s (pos + K) = W := ⟨_, rfl⟩
      rw [hW] at hnx hb2
      have hz := hb2.bel.size
      have hown := hb2.own
      go_wp2_with (at_builtin; refine wpList_append_own _ rfl (.tmp 11) (.tmp 13) 66 rfl w.heap.size 21 i0 (.int .i32 0) 1 4 Tryd.underlying66 hi hz0 hz1 hz2 rfl (by decide) _ _ _ rfl (hown.alloc _) ⟨W.heap.size, 0, none⟩ 1 1 [.int .i32 (R : Int)] rfl rfl (cell_one_new _ _ _) (by intro u hu; simp at hu; subst hu; rfl) (by unfold maxLen; omega) (by omega) (by simp; omega) ?_; intro v' w1 hown' hgrow _)
      have hb3 := hb2.grown _ hown' hgrow
      clear hown' hgrow hown hb2
      go_roundw
      case rel => exact ⟨pos + K, b - 1, acc ++ [(R : Int)], S2, by omega, by simp; omega, HS.out, by simpa [ch32] using hb3⟩
      case measure => rw [hmu, show w1.iterPos w.heap.size = pos + K by simp [World.iterPos, hb3.it]]; omega
    · have hnx : ∀ ty, (Instr.next (.pointer (some ⟨w.heap.size, 0, none⟩)) true ty).run Tryd.prog wr = _ := fun ty => Lib.run_next_end_at wr w.heap.size s pos ty hbe.it hlt
      have HE : Hid (acc = cs) := (by have := HM.out; rw [chF_end s b pos hlt] at this; simpa using this : acc = cs)
      go_wp2
      go_ret
      rw [← HE.out]
      exact ⟨_, rfl, hbe.own, hbe.bel⟩
/-- The cells of a pattern's pieces. -/
def pc3 (l : List (Bool × Bool × Int)) : List Value := l.flatMap fun x => [.bool x.1, .bool x.2.1, .int .i32 x.2.2]
theorem pc3_snoc (l : List (Bool × Bool × Int)) (m a : Bool) (c : Int) : pc3 (l ++ [(m, a, c)]) = pc3 l ++ [.bool m, .bool a, .int .i32 c] := by simp [pc3]
theorem pc3_len (l : List (Bool × Bool × Int)) : (pc3 l).length = l.length * 3 := by
  induction l with
  | nil => rfl
  | cons x l ih => simp [pc3] at ih ⊢; omega
def PiecesR (s : ByteArray) (ps : List (Bool × Bool × Int)) (w : World) (v ev : Value) (wr : World) : Prop :=
  ∃ (pos b : Nat) (esc : Bool) (acc : List (Bool × Bool × Int)) (rest : List Int), ev = .bool esc ∧ pos ≤ s.size ∧ s.size ≤ pos + b ∧ acc.length ≤ pos ∧ Hid (chF s b pos = some rest ∧ acc ++ pcs esc rest = ps) ∧ Beside w s w.heap.size pos 111 3 v acc.length (pc3 acc) wr
/-- One step of a range over a well formed text, by what is left. -/
theorem step_rest {s : ByteArray} {b pos : Nat} {rest : List Int} (h : pos < s.size) (hb : s.size ≤ pos + b) (hm : chF s b pos = some rest) :
    ∃ r, rest = ((Utf8.decode s pos).1 : Int) :: r ∧ chF s (b - 1) (pos + (Utf8.decode s pos).2) = some r ∧ pos + (Utf8.decode s pos).2 ≤ s.size ∧ 1 ≤ (Utf8.decode s pos).2 := by
  obtain ⟨f, rfl⟩ : ∃ f, b = f + 1 := ⟨b - 1, by omega⟩
  rw [chF, if_pos h] at hm
  by_cases hd : Utf8.decode s pos = (65533, 1)
  · rw [if_pos hd] at hm; cases hm
  · rw [if_neg hd] at hm
    obtain ⟨r, hr, e⟩ := Option.map_eq_some_iff.1 hm
    exact ⟨r, e.symm, hr, (width_le s pos h).1, Lib.decode_width_pos s pos h⟩
end Lk
end Go.Proofs.YtcgnkcehjcednaaDoor
