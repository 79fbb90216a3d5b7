import Derived.Test.YtcgnkcehjcednaaDoorRows
import Derived.WalkKit
import Derived.ProofKit
import Derived.OpenShut
import Derived.WalkLawsBesides
import Derived.Deep.Light
import Derived.WalkSpells
import Derived.Deep.QuietTactic
import Derived.BigQuiet
import Derived.Deep.CutRange
import Derived.Deep.DeepCutAuto
import Derived.Lib.AppendStr
import Derived.Laws.BytesArg
import Derived.Deep.RegionWith
namespace Go.Proofs.YtcgnkcehjcednaaDoor.Dr
open Go.ChangeShapes Go.WideShapes Go.ChangeAt Go.RowKit
set_option linter.unusedVariables false
set_option linter.unusedSimpArgs false
set_option maxRecDepth 100000
theorem ret_int {k : IntKind} {a b : Int} (h : a = b) : Ending.returned (.int k a) = .returned (.int k b) := by rw [h]
/-- All but block c is as it was. -/
structure Upd (c : Nat) (w w' : World) : Prop where
  os : w'.os = w.os
  tape : w'.tape = w.tape
  output : w'.output = w.output
  size : w.heap.size ≤ w'.heap.size
  block : ∀ k, k < w.heap.size → k ≠ c → w'.heap[k]? = w.heap[k]?
theorem Upd.refl (c : Nat) (w : World) : Upd c w w := ⟨rfl, rfl, rfl, Nat.le_refl _, fun _ _ _ => rfl⟩
theorem Upd.trans {c : Nat} {a b d : World} (h : Upd c a b) (k : Upd c b d) : Upd c a d :=
  ⟨k.os.trans h.os, k.tape.trans h.tape, k.output.trans h.output, Nat.le_trans h.size k.size, fun j hj hc => (k.block j (Nat.lt_of_lt_of_le hj h.size) hc).trans (h.block j hj hc)⟩
theorem Upd.of_below {c : Nat} {w w' : World} (h : Below w.heap.size w w') : Upd c w w' := ⟨h.os, h.tape, h.output, h.size, fun k hk _ => h.block k hk⟩
theorem Upd.drewN {c : Nat} {w w' : World} (h : Upd c w w') (n : Nat) : Upd c w (w'.drewN n) := ⟨h.os, h.tape, h.output, h.size, h.block⟩
theorem Upd.setCell {c : Nat} {w w' : World} (h : Upd c w w') (o : Nat) (u : Value) : Upd c w (w'.setCell ⟨c, o, none⟩ u) := by
  have hb := (Below.refl 0 w').setCell (p := ⟨c, o, none⟩) (Nat.zero_le _) u
  exact ⟨hb.os.trans h.os, hb.tape.trans h.tape, hb.output.trans h.output, Nat.le_trans h.size hb.size, fun k hk hc => (Below.heap_setCell w' ⟨c, o, none⟩ u k hc).trans (h.block k hk hc)⟩
theorem Upd.cell {c : Nat} {w w' : World} (h : Upd c w w') {p : Addr} (hp : p.block < w.heap.size) (hc : p.block ≠ c) : w'.cell? p = w.cell? p := World.cell?_of_block (w := w) (h.block p.block hp hc)
theorem Upd.frozen {c : Nat} {w w' : World} (h : Upd c w w') {p : Addr} (hp : p.block < w.heap.size) (hc : p.block ≠ c) : w'.frozen? p = w.frozen? p := World.frozen?_of_block (w := w) (h.block p.block hp hc)
theorem Upd.below {c : Nat} {w W w' : World} (hb : Below w.heap.size w W) (h : Upd c W w') (hc : w.heap.size ≤ c) : Below w.heap.size w w' :=
  ⟨h.os.trans hb.os, h.tape.trans hb.tape, h.output.trans hb.output, Nat.le_trans hb.size h.size, fun k hk => (h.block k (Nat.lt_of_lt_of_le hk hb.size) (by omega)).trans (hb.block k hk)⟩
/-- The code's bytes lie readable, apart from block c. -/
def Bytes (w : World) (c : Nat) (v0 : Option Addr) (len : Nat) : Prop :=
  ∀ j, j < len → ∃ g o b, v0 = some ⟨g, o, none⟩ ∧ g < c ∧ w.cell? ⟨g, o + j, none⟩ = some (.int .u8 b) ∧ 0 ≤ b ∧ b < 256
theorem Bytes.upd {w w' : World} {c : Nat} {v0 : Option Addr} {len : Nat} (h : Bytes w c v0 len) (u : Upd c w w') (hc : c < w.heap.size) : Bytes w' c v0 len := fun j hj => by
  obtain ⟨g, o, b, e1, e2, e4, e5, e6⟩ := h j hj
  exact ⟨g, o, b, e1, e2, (u.cell (p := ⟨g, o + j, none⟩) (Nat.lt_trans e2 hc) (Nat.ne_of_lt e2)).trans e4, e5, e6⟩
theorem Bytes.same {w w' : World} {c : Nat} {v0 : Option Addr} {len : Nat} (h : Bytes w c v0 len) (u : ∀ k, k < c → w'.heap[k]? = w.heap[k]?) : Bytes w' c v0 len := fun j hj => by
  obtain ⟨g, o, b, e1, e2, e4, e5, e6⟩ := h j hj
  exact ⟨g, o, b, e1, e2, (World.cell?_of_block (w := w) (u g e2)).trans e4, e5, e6⟩
/-- A cursor at block c that has been asked at most A times. -/
structure Cur (w : World) (c : Nat) (A : Int) (v0 : Option Addr) (len cap : Nat) (at' seed room : Int) : Prop where
  c0 : w.cell? ⟨c, 0, none⟩ = some (.slice v0 len cap)
  c1 : w.cell? ⟨c, 1, none⟩ = some (.int .i64 at')
  c2 : w.cell? ⟨c, 2, none⟩ = some (.int .i64 seed)
  c3 : w.cell? ⟨c, 3, none⟩ = some (.int .i64 room)
  f1 : w.frozen? ⟨c, 1, none⟩ = false
  f2 : w.frozen? ⟨c, 2, none⟩ = false
  a0 : 0 ≤ at'
  a1 : at' ≤ A
  s0 : 0 ≤ seed
  s1 : seed < 2147483648
  ln : len ≤ 1048576
  lt : c < w.heap.size
  bs : Bytes w c v0 len
def IsCur (w : World) (c : Nat) (A : Int) : Prop := ∃ v0 len cap at' seed room, Cur w c A v0 len cap at' seed room
theorem Cur.size (w : World) (p : Addr) (u : Value) : w.heap.size ≤ (w.setCell p u).heap.size := ((Below.refl 0 w).setCell (p := p) (Nat.zero_le _) u).size
theorem Cur.at {w : World} {c : Nat} {A : Int} {v0 : Option Addr} {len cap : Nat} {at' seed room : Int} (h : Cur w c A v0 len cap at' seed room) : Cur (w.setCell ⟨c, 1, none⟩ (.int .i64 (at' + 1))) c (A + 1) v0 len cap (at' + 1) seed room := by
  have hb := h.bs.upd ((Upd.refl c w).setCell 1 (.int .i64 (at' + 1))) h.lt
  have hs := Cur.size w ⟨c, 1, none⟩ (.int .i64 (at' + 1))
  obtain ⟨c0, c1, c2, c3, f1, f2, a0, a1, s0, s1, ln, lt, bs⟩ := h
  clear bs
  exact ⟨by simp [go_sem, *], by simp [go_sem, *], by simp [go_sem, *], by simp [go_sem, *], by simp [go_sem, *], by simp [go_sem, *], by omega, by omega, s0, s1, ln, by omega, hb⟩
theorem Cur.seed {w : World} {c : Nat} {A : Int} {v0 : Option Addr} {len cap : Nat} {at' seed room : Int} (h : Cur w c A v0 len cap at' seed room) (x : Int) (x0 : 0 ≤ x) (x1 : x < 2147483648) : Cur (w.setCell ⟨c, 2, none⟩ (.int .i64 x)) c A v0 len cap at' x room := by
  have hb := h.bs.upd ((Upd.refl c w).setCell 2 (.int .i64 x)) h.lt
  have hs := Cur.size w ⟨c, 2, none⟩ (.int .i64 x)
  obtain ⟨c0, c1, c2, c3, f1, f2, a0, a1, s0, s1, ln, lt, bs⟩ := h
  clear bs
  exact ⟨by simp [go_sem, *], by simp [go_sem, *], by simp [go_sem, *], by simp [go_sem, *], by simp [go_sem, *], by simp [go_sem, *], by omega, by omega, x0, x1, ln, by omega, hb⟩
theorem Cur.drewN {w : World} {c : Nat} {A : Int} {v0 : Option Addr} {len cap : Nat} {at' seed room : Int} (h : Cur w c A v0 len cap at' seed room) (n : Nat) : Cur (w.drewN n) c A v0 len cap at' seed room :=
  ⟨h.c0, h.c1, h.c2, h.c3, h.f1, h.f2, h.a0, h.a1, h.s0, h.s1, h.ln, h.lt, h.bs⟩
set_option maxHeartbeats 4000000 in
theorem byte_any (c : Nat) (A : Int) (w : World) (h : IsCur w c A) (hA : A ≤ 1000000000) : Calls Tryd.prog 110 #[.pointer (some ⟨c, 0, none⟩)] w fun e w' => ∃ r : Int, 0 ≤ r ∧ r < 256 ∧ e = .returned (.int .i64 r) ∧ IsCur w' c (A + 1) ∧ Upd c w w' := by
  obtain ⟨v0, len, cap, at', seed, room, hC⟩ := h
  have HC : Hid (Cur w c A v0 len cap at' seed room) := hC
  obtain ⟨c0, c1, c2, c3, f1, f2, a0, a1, s0, s1, ln, lt, bs⟩ := hC
  have HB : Hid (Bytes w c v0 len) := bs
  clear bs
  by_cases h1 : 200 + 40 * (len : Int) < at' + 1
  · go_enter Tryd.func110, Tryd.ntmps110
    go_wp2
    go_quiet (fail)
    go_wp2
    go_ret
    exact ⟨0, by omega, by omega, rfl, ⟨_, _, _, _, _, _, HC.out.at.drewN _⟩, ((Upd.refl c w).setCell _ _).drewN _⟩
  · by_cases h2 : (len : Int) < at' + 1
    · go_enter Tryd.func110, Tryd.ntmps110
      go_wp2
      go_quiet (fail)
      go_wp2
      go_quiet (fail)
      go_wp2
      go_ret
      refine ⟨_, ?_, ?_, rfl, ⟨_, _, _, _, _, _, (HC.out.at.seed ((seed * 1103515245 + 12345) % 2147483648) (by omega) (by omega)).drewN _⟩, (((Upd.refl c w).setCell _ _).setCell _ _).drewN _⟩
      all_goals
        go_light
        omega
    · have hj : at'.toNat < len := by omega
      obtain ⟨g, o, b, rfl, hgc0, hcell, hb0, hb1⟩ := HB.out at'.toNat hj
      have hgc : g ≠ c := Nat.ne_of_lt hgc0
      clear hgc0
      have e1 : ((at'.toNat : Nat) : Int) = at' := by omega
      go_enter Tryd.func110, Tryd.ntmps110
      go_wp2
      go_quiet (fail)
      go_wp2
      go_quiet (fail)
      go_wp2
      have hcell' : ∀ n, ((w.setCell ⟨c, 1, none⟩ (.int .i64 (at' + 1))).drewN n).cell? ⟨g, o + at'.toNat, none⟩ = some (.int .u8 b) := fun n => by simp [go_sem, *]
      have hi0 : 0 ≤ at' + 1 - 1 := by omega
      have hi1 : at' + 1 - 1 < (len : Int) := by omega
      go_region
      all_goals
        go_wp2
        go_quiet (fail)
        go_wp2
        go_ret
        refine ⟨b, hb0, hb1, ret_int ?_, ?_, ?_⟩
        · go_light
          first | rfl | omega
        · exact ⟨_, _, _, _, _, _, (((HC.out.at).drewN _).seed _ (by omega) (by omega)).drewN _⟩
        · exact ((((Upd.refl c w).setCell _ _).drewN _).setCell _ _).drewN _
theorem IsCur.same {w w' : World} {c : Nat} {A : Int} (h : IsCur w c A) (u : ∀ k, k ≤ c → w'.heap[k]? = w.heap[k]?) (hz : c < w'.heap.size) : IsCur w' c A := by
  obtain ⟨v0, len, cap, at', seed, room, hC⟩ := h
  have hb := u c (Nat.le_refl _)
  exact ⟨v0, len, cap, at', seed, room, ⟨(World.cell?_of_block (w := w) (a := ⟨c, 0, none⟩) hb).trans hC.c0, (World.cell?_of_block (w := w) (a := ⟨c, 1, none⟩) hb).trans hC.c1, (World.cell?_of_block (w := w) (a := ⟨c, 2, none⟩) hb).trans hC.c2, (World.cell?_of_block (w := w) (a := ⟨c, 3, none⟩) hb).trans hC.c3, (World.frozen?_of_block (w := w) (a := ⟨c, 1, none⟩) hb).trans hC.f1, (World.frozen?_of_block (w := w) (a := ⟨c, 2, none⟩) hb).trans hC.f2, hC.a0, hC.a1, hC.s0, hC.s1, hC.ln, hz, hC.bs.same fun k hk => u k (Nat.le_of_lt hk)⟩⟩
theorem IsCur.lt {w : World} {c : Nat} {A : Int} (h : IsCur w c A) : c < w.heap.size := by
  obtain ⟨_, _, _, _, _, _, hC⟩ := h
  exact hC.lt
theorem IsCur.below {w w' : World} {c B : Nat} {A : Int} (h : IsCur w c A) (hb : Below B w w') (hB : c < B) : IsCur w' c A :=
  h.same (fun k hk => hb.block k (Nat.lt_of_le_of_lt hk hB)) (Nat.lt_of_lt_of_le h.lt hb.size)
theorem IsCur.mono {w : World} {c : Nat} {A B : Int} (h : IsCur w c A) (hAB : A ≤ B) : IsCur w c B := by
  obtain ⟨v0, len, cap, at', seed, room, hC⟩ := h
  exact ⟨v0, len, cap, at', seed, room, ⟨hC.c0, hC.c1, hC.c2, hC.c3, hC.f1, hC.f2, hC.a0, Int.le_trans hC.a1 hAB, hC.s0, hC.s1, hC.ln, hC.lt, hC.bs⟩⟩
/-- What a draw leaves: a number in its range, the cursor, all else as it was. -/
def Drawn (c : Nat) (A : Int) (n : Int) (w : World) (e : Ending) (w' : World) : Prop := ∃ r : Int, 0 ≤ r ∧ r < n ∧ e = .returned (.int .i64 r) ∧ IsCur w' c A ∧ Upd c w w'
set_option maxHeartbeats 4000000 in
theorem pick_any (c : Nat) (A n : Int) (w : World) (h : IsCur w c A) (hA : A ≤ 100000000) (h1 : 2 ≤ n) (h2 : n ≤ 65536) : Calls Tryd.prog 68 #[.pointer (some ⟨c, 0, none⟩), .int .i64 n] w fun e w' => Drawn c (A + 2) n w e w' := by
  by_cases h256 : n ≤ 256
  · go_enter Tryd.func68, Tryd.ntmps68
    go_wp2_with fail
    refine (byte_any c A _ h (by omega)).mono ?_
    rintro e w1 ⟨r, r0, r1, rfl, hc1, hu1⟩
    have hm0 : 0 ≤ r % n := Int.emod_nonneg _ (by omega)
    have hm1 : r % n < n := Int.emod_lt_of_pos _ (by omega)
    have hn0 : (n == 0) = false := by rw [beq_eq_false_iff_ne]; omega
    go_wp2
    go_ret
    exact ⟨_, by omega, by omega, rfl, hc1.mono (by omega), hu1⟩
  · go_enter Tryd.func68, Tryd.ntmps68
    go_wp2_with fail
    refine (byte_any c A _ h (by omega)).mono ?_
    rintro e w1 ⟨r, r0, r1, rfl, hc1, hu1⟩
    go_wp2_with fail
    refine (byte_any c (A + 1) _ hc1 (by omega)).mono ?_
    rintro e w2 ⟨q, q0, q1, rfl, hc2, hu2⟩
    have hm0 : 0 ≤ (r * 256 + q) % n := Int.emod_nonneg _ (by omega)
    have hm1 : (r * 256 + q) % n < n := Int.emod_lt_of_pos _ (by omega)
    have hn0 : (n == 0) = false := by rw [beq_eq_false_iff_ne]; omega
    go_wp2
    go_ret
    exact ⟨_, by omega, by omega, rfl, hc2.mono (by omega), hu1.trans hu2⟩
end Go.Proofs.YtcgnkcehjcednaaDoor.Dr
namespace Go.Proofs.YtcgnkcehjcednaaDoor.Dr
open Go.ChangeShapes Go.WideShapes Go.ChangeAt Go.RowKit
set_option linter.unusedVariables false
set_option linter.unusedSimpArgs false
set_option maxRecDepth 100000
theorem Upd.thenB {c B : Nat} {w w1 w2 : World} (h : Upd c w w1) (hb : Below B w1 w2) (hB : w.heap.size ≤ B) : Upd c w w2 :=
  ⟨hb.os.trans h.os, hb.tape.trans h.tape, hb.output.trans h.output, Nat.le_trans h.size hb.size, fun k hk hc => (hb.block k (Nat.lt_of_lt_of_le hk hB)).trans (h.block k hk hc)⟩
end Go.Proofs.YtcgnkcehjcednaaDoor.Dr
namespace Go.Proofs.YtcgnkcehjcednaaDoor.Df
open Go.ChangeShapes Go.WideShapes Go.ChangeAt Go.RowKit
open Dr (Upd)
set_option linter.unusedVariables false
set_option linter.unusedSimpArgs false
set_option maxRecDepth 100000
theorem below_alloc (w : World) (o : Obj) : Below w.heap.size w (w.alloc o) := (Below.refl _ w).alloc (Nat.le_refl _) o
theorem alloc_strs (w : World) (xs : List ByteArray) (i : Nat) (h : i < xs.length) : (w.alloc (.cells (xs.map Value.string).toArray 9)).cell? ⟨w.heap.size, i, none⟩ = some (.string (xs.getD i ByteArray.empty)) := by
  rw [World.cell?_alloc_at _ _ _ _ rfl]
  simp [List.getD, h]
theorem getD_all {α : Type} {P : α → Prop} {d : α} {xs : List α} (h : ∀ x ∈ xs, P x) (hd : P d) (i : Nat) : P (xs.getD i d) := by
  rw [List.getD]
  cases e : xs[i]? with
  | none => exact hd
  | some x => exact h x (List.mem_of_getElem? e)
theorem upd_alloc (c : Nat) (w : World) (o : Obj) : Upd c w (w.alloc o) := Upd.of_below ((Below.refl _ w).alloc (Nat.le_refl _) o)
theorem own_upd {w w' : World} {c b e s n : Nat} {v : Value} {xs : List Value} (h : w.ownsRow b e s v n xs) (u : Upd c w w') (hc : c < b) : w'.ownsRow b e s v n xs := by
  obtain ⟨h1, h2⟩ := h
  refine ⟨h1, ?_⟩
  rcases h2 with a | ⟨g, cap, cur, e1, e2, e3, e4⟩
  · exact .inl a
  · exact .inr ⟨g, cap, cur, e1, e2, (u.block g (Array.getElem?_eq_some_iff.1 e3).1 (by omega)).trans e3, e4⟩
theorem own_bel {w w' : World} {b e s n : Nat} {v : Value} {xs : List Value} (h : w.ownsRow b e s v n xs) (u : Below w.heap.size w w') : w'.ownsRow b e s v n xs := by
  obtain ⟨h1, h2⟩ := h
  refine ⟨h1, ?_⟩
  rcases h2 with a | ⟨g, cap, cur, e1, e2, e3, e4⟩
  · exact .inl a
  · exact .inr ⟨g, cap, cur, e1, e2, (u.block g (Array.getElem?_eq_some_iff.1 e3).1).trans e3, e4⟩
theorem own_set {w : World} {b e s n : Nat} {v : Value} {xs : List Value} {p : Addr} (h : w.ownsRow b e s v n xs) (hn : ∀ g, v.ownBlock = some g → g ≠ p.block) (u : Value) : (w.setCell p u).ownsRow b e s v n xs := by
  obtain ⟨h1, h2⟩ := h
  refine ⟨h1, ?_⟩
  rcases h2 with a | ⟨g, cap, cur, e1, e2, e3, e4⟩
  · exact .inl a
  · exact .inr ⟨g, cap, cur, e1, e2, (Below.heap_setCell w p u g (hn g (by rw [e1]; rfl))).trans e3, e4⟩
theorem three_new (w : World) (x y z : Value) (t : TypeId) : ∀ j u, [x, y, z][j]? = some u → (w.alloc (.cells #[x, y, z] t)).cell? ((⟨w.heap.size, 0, none⟩ : Addr).add j) = some u := by
  intro j u hj
  match j, hj with
  | 0, hj => simp at hj; subst hj; simp [Addr.add]
  | 1, hj => simp at hj; subst hj; simp [Addr.add]
  | 2, hj => simp at hj; subst hj; simp [Addr.add]
  | (j + 3), hj => simp at hj
theorem three_at (w : World) (m : Nat) (hm : w.heap.size = m) (x y z : Value) (t : TypeId) : ∀ j u, [x, y, z][j]? = some u → (w.alloc (.cells #[x, y, z] t)).cell? ((⟨m, 0, none⟩ : Addr).add j) = some u := by
  subst hm; exact three_new w x y z t
theorem cell_at {w : World} {b e s g n c : Nat} {xs : List Value} {u : Value} {j : Nat} (h : w.ownsRow b e s (.slice (some ⟨g, 0, none⟩) n c) n xs) (hj : xs[j]? = some u) : w.cell? ⟨g, j, none⟩ = some u := by
  have := h.cells rfl j u hj
  by_cases hz : j = 0
  · subst hz; simpa [Addr.add] using this
  · simpa [Addr.add, hz] using this
end Go.Proofs.YtcgnkcehjcednaaDoor.Df
namespace Go.Proofs.YtcgnkcehjcednaaDoor.Df
open Go.ChangeShapes Go.WideShapes Go.ChangeAt Go.RowKit
open Dr (Upd)
set_option linter.unusedVariables false
set_option linter.unusedSimpArgs false
set_option maxRecDepth 100000
/-- A cursor's state: how often it was asked, its seed. -/
structure St where
  at' : Int
  seed : Int
def lcg (s : Int) : Int := (s * 1103515245 + 12345) % 2147483648
def mix (s b : Int) : Int := (s * 31 + b + 7) % 2147483648
/-- One number below 256 of the code, or by chance behind its end. -/
def byteF (bs : List Int) (σ : St) : Int × St :=
  if 200 + 40 * (bs.length : Int) < σ.at' + 1 then (0, ⟨σ.at' + 1, σ.seed⟩)
  else if (bs.length : Int) < σ.at' + 1 then (lcg σ.seed / 65536 % 256, ⟨σ.at' + 1, lcg σ.seed⟩)
  else (bs.getD σ.at'.toNat 0, ⟨σ.at' + 1, mix σ.seed (bs.getD σ.at'.toNat 0)⟩)
/-- One of 0 .. n - 1. -/
def pickF (bs : List Int) (n : Int) (σ : St) : Int × St :=
  if n ≤ 256 then ((byteF bs σ).1 % n, (byteF bs σ).2)
  else (((byteF bs σ).1 * 256 + (byteF bs (byteF bs σ).2).1) % n, (byteF bs (byteF bs σ).2).2)
/-- A cursor over bytes at block c, in a state. -/
structure CurF (w : World) (c : Nat) (bs : List Int) (σ : St) (v0 : Option Addr) (cap : Nat) : Prop where
  c0 : w.cell? ⟨c, 0, none⟩ = some (.slice v0 bs.length cap)
  c1 : w.cell? ⟨c, 1, none⟩ = some (.int .i64 σ.at')
  c2 : w.cell? ⟨c, 2, none⟩ = some (.int .i64 σ.seed)
  f1 : w.frozen? ⟨c, 1, none⟩ = false
  f2 : w.frozen? ⟨c, 2, none⟩ = false
  a0 : 0 ≤ σ.at'
  a1 : σ.at' ≤ 1000000000
  s0 : 0 ≤ σ.seed
  s1 : σ.seed < 2147483648
  ln : bs.length ≤ 1048576
  lt : c < w.heap.size
  bs' : ∀ j, j < bs.length → ∃ g o, v0 = some ⟨g, o, none⟩ ∧ g < c ∧ w.cell? ⟨g, o + j, none⟩ = some (.int .u8 (bs.getD j 0)) ∧ 0 ≤ bs.getD j 0 ∧ bs.getD j 0 < 256
def IsF (w : World) (c : Nat) (bs : List Int) (σ : St) : Prop := ∃ v0 cap, CurF w c bs σ v0 cap
theorem CurF.drewN {w : World} {c : Nat} {bs : List Int} {σ : St} {v0 : Option Addr} {cap : Nat} (h : CurF w c bs σ v0 cap) (n : Nat) : CurF (w.drewN n) c bs σ v0 cap :=
  ⟨h.c0, h.c1, h.c2, h.f1, h.f2, h.a0, h.a1, h.s0, h.s1, h.ln, h.lt, h.bs'⟩
theorem CurF.bytes {w w' : World} {c : Nat} {bs : List Int} {σ : St} {v0 : Option Addr} {cap : Nat} (h : CurF w c bs σ v0 cap) (u : Upd c w w') : ∀ j, j < bs.length → ∃ g o, v0 = some ⟨g, o, none⟩ ∧ g < c ∧ w'.cell? ⟨g, o + j, none⟩ = some (.int .u8 (bs.getD j 0)) ∧ 0 ≤ bs.getD j 0 ∧ bs.getD j 0 < 256 := fun j hj => by
  obtain ⟨g, o, e1, e2, e3, e4, e5⟩ := h.bs' j hj
  exact ⟨g, o, e1, e2, (u.cell (p := ⟨g, o + j, none⟩) (Nat.lt_trans e2 h.lt) (Nat.ne_of_lt e2)).trans e3, e4, e5⟩
theorem CurF.at {w : World} {c : Nat} {bs : List Int} {σ : St} {v0 : Option Addr} {cap : Nat} (h : CurF w c bs σ v0 cap) (hA : σ.at' < 1000000000) : CurF (w.setCell ⟨c, 1, none⟩ (.int .i64 (σ.at' + 1))) c bs ⟨σ.at' + 1, σ.seed⟩ v0 cap := by
  have hb := h.bytes ((Upd.refl c w).setCell 1 (.int .i64 (σ.at' + 1)))
  have hs := Dr.Cur.size w ⟨c, 1, none⟩ (.int .i64 (σ.at' + 1))
  obtain ⟨c0, c1, c2, f1, f2, a0, a1, s0, s1, ln, lt, bsx⟩ := h
  clear bsx
  exact ⟨by simp [go_sem, *], by simp [go_sem, *], by simp [go_sem, *], by simp [go_sem, *], by simp [go_sem, *], by show 0 ≤ σ.at' + 1; omega, by show σ.at' + 1 ≤ _; omega, s0, s1, ln, by omega, hb⟩
theorem CurF.seed {w : World} {c : Nat} {bs : List Int} {σ : St} {v0 : Option Addr} {cap : Nat} (h : CurF w c bs σ v0 cap) (x : Int) (x0 : 0 ≤ x) (x1 : x < 2147483648) : CurF (w.setCell ⟨c, 2, none⟩ (.int .i64 x)) c bs ⟨σ.at', x⟩ v0 cap := by
  have hb := h.bytes ((Upd.refl c w).setCell 2 (.int .i64 x))
  have hs := Dr.Cur.size w ⟨c, 2, none⟩ (.int .i64 x)
  obtain ⟨c0, c1, c2, f1, f2, a0, a1, s0, s1, ln, lt, bsx⟩ := h
  clear bsx
  exact ⟨by simp [go_sem, *], by simp [go_sem, *], by simp [go_sem, *], by simp [go_sem, *], by simp [go_sem, *], a0, a1, x0, x1, ln, by omega, hb⟩
theorem byteF_bd (bs : List Int) (σ : St) (hb : ∀ j, j < bs.length → 0 ≤ bs.getD j 0 ∧ bs.getD j 0 < 256) (h0 : 0 ≤ σ.at') : 0 ≤ (byteF bs σ).1 ∧ (byteF bs σ).1 < 256 ∧ (byteF bs σ).2.at' = σ.at' + 1 := by
  unfold byteF
  split
  · exact ⟨Int.le_refl 0, by show (0 : Int) < 256; decide, rfl⟩
  · split
    · exact ⟨by show 0 ≤ lcg σ.seed / 65536 % 256; omega, by show lcg σ.seed / 65536 % 256 < 256; omega, rfl⟩
    · have := hb σ.at'.toNat (by omega)
      exact ⟨this.1, this.2, rfl⟩
set_option maxHeartbeats 8000000 in
theorem byte_F (c : Nat) (bs : List Int) (σ : St) (w : World) (h : IsF w c bs σ) (hA : σ.at' < 1000000000) : Calls Tryd.prog 110 #[.pointer (some ⟨c, 0, none⟩)] w fun e w' => e = .returned (.int .i64 (byteF bs σ).1) ∧ IsF w' c bs (byteF bs σ).2 ∧ Upd c w w' := by
  obtain ⟨v0, cap, hC⟩ := h
  have HC : Hid (CurF w c bs σ v0 cap) := hC
  obtain ⟨at', seed⟩ := σ
  obtain ⟨len, hlen⟩ : ∃ n, bs.length = n := ⟨_, rfl⟩
  obtain ⟨c0, c1, c2, f1, f2, a0, a1, s0, s1, ln, lt, bsx⟩ := hC
  simp only at c1 c2 a0 a1 s0 s1 hA
  have HB : Hid (∀ j, j < bs.length → ∃ g o, v0 = some ⟨g, o, none⟩ ∧ g < c ∧ w.cell? ⟨g, o + j, none⟩ = some (.int .u8 (bs.getD j 0)) ∧ 0 ≤ bs.getD j 0 ∧ bs.getD j 0 < 256) := bsx
  clear bsx
  rw [hlen] at c0 ln HB
  by_cases h1 : 200 + 40 * (len : Int) < at' + 1
  · have HR : Hid (byteF bs ⟨at', seed⟩ = (0, ⟨at' + 1, seed⟩)) := (by unfold byteF; rw [hlen, if_pos h1] : byteF bs ⟨at', seed⟩ = (0, ⟨at' + 1, seed⟩))
    rw [HR.out]
    go_enter Tryd.func110, Tryd.ntmps110
    go_wp2
    go_quiet (fail)
    go_wp2
    go_ret
    exact ⟨rfl, ⟨v0, cap, (HC.out.at hA).drewN _⟩, ((Upd.refl c w).setCell _ _).drewN _⟩
  · by_cases h2 : (len : Int) < at' + 1
    · have HR : Hid (byteF bs ⟨at', seed⟩ = (lcg seed / 65536 % 256, ⟨at' + 1, lcg seed⟩)) := (by unfold byteF; rw [hlen, if_neg h1, if_pos h2] : byteF bs ⟨at', seed⟩ = (lcg seed / 65536 % 256, ⟨at' + 1, lcg seed⟩))
      rw [HR.out]
      go_enter Tryd.func110, Tryd.ntmps110
      go_wp2
      go_quiet (fail)
      go_wp2
      go_quiet (fail)
      go_wp2
      go_ret
      refine ⟨Dr.ret_int ?_, ⟨v0, cap, ?_⟩, ?_⟩
      · go_light
        unfold lcg
        omega
      · exact ((HC.out.at hA).seed (lcg seed) (by unfold lcg; omega) (by unfold lcg; omega)).drewN _
      · exact (((Upd.refl c w).setCell _ _).setCell _ _).drewN _
    · have hj : at'.toNat < len := by omega
      obtain ⟨g, o, rfl, hgc0, hcell, hb0, hb1⟩ := HB.out at'.toNat hj
      obtain ⟨b, hb⟩ : ∃ b, bs.getD at'.toNat 0 = b := ⟨_, rfl⟩
      have HR : Hid (byteF bs ⟨at', seed⟩ = (b, ⟨at' + 1, mix seed b⟩)) := (by unfold byteF; rw [hlen, if_neg h1, if_neg h2]; simp only []; rw [hb] : byteF bs ⟨at', seed⟩ = (b, ⟨at' + 1, mix seed b⟩))
      rw [hb] at hcell hb0 hb1
      rw [HR.out]
      have hgc : g ≠ c := Nat.ne_of_lt hgc0
      clear hgc0
      have e1 : ((at'.toNat : Nat) : Int) = at' := by omega
      go_enter Tryd.func110, Tryd.ntmps110
      go_wp2
      go_quiet (fail)
      go_wp2
      go_quiet (fail)
      go_wp2
      have hcell' : ∀ n, ((w.setCell ⟨c, 1, none⟩ (.int .i64 (at' + 1))).drewN n).cell? ⟨g, o + at'.toNat, none⟩ = some (.int .u8 b) := fun n => by simp [go_sem, *]
      have hi0 : 0 ≤ at' + 1 - 1 := by omega
      have hi1 : at' + 1 - 1 < (len : Int) := by omega
      go_region
      all_goals
        go_wp2
        go_quiet (fail)
        go_wp2
        go_ret
        refine ⟨Dr.ret_int ?_, ⟨some ⟨g, o, none⟩, cap, ?_⟩, ?_⟩
        · go_light
          first | rfl | omega
        · exact (((HC.out.at hA).drewN _).seed (mix seed b) (by unfold mix; omega) (by unfold mix; omega)).drewN _
        · exact ((((Upd.refl c w).setCell _ _).drewN _).setCell _ _).drewN _
theorem IsF.bd {w : World} {c : Nat} {bs : List Int} {σ : St} (h : IsF w c bs σ) : ∀ j, j < bs.length → 0 ≤ bs.getD j 0 ∧ bs.getD j 0 < 256 := by
  obtain ⟨v0, cap, hC⟩ := h
  intro j hj
  obtain ⟨_, _, _, _, _, h4, h5⟩ := hC.bs' j hj
  exact ⟨h4, h5⟩
theorem IsF.at0 {w : World} {c : Nat} {bs : List Int} {σ : St} (h : IsF w c bs σ) : 0 ≤ σ.at' := by
  obtain ⟨v0, cap, hC⟩ := h
  exact hC.a0
theorem IsF.lt {w : World} {c : Nat} {bs : List Int} {σ : St} (h : IsF w c bs σ) : c < w.heap.size := by
  obtain ⟨v0, cap, hC⟩ := h
  exact hC.lt
theorem IsF.same {w w' : World} {c : Nat} {bs : List Int} {σ : St} (h : IsF w c bs σ) (u : ∀ k, k ≤ c → w'.heap[k]? = w.heap[k]?) (hz : c < w'.heap.size) : IsF w' c bs σ := by
  obtain ⟨v0, cap, hC⟩ := h
  have hb := u c (Nat.le_refl _)
  refine ⟨v0, cap, ⟨(World.cell?_of_block (w := w) (a := ⟨c, 0, none⟩) hb).trans hC.c0, (World.cell?_of_block (w := w) (a := ⟨c, 1, none⟩) hb).trans hC.c1, (World.cell?_of_block (w := w) (a := ⟨c, 2, none⟩) hb).trans hC.c2, (World.frozen?_of_block (w := w) (a := ⟨c, 1, none⟩) hb).trans hC.f1, (World.frozen?_of_block (w := w) (a := ⟨c, 2, none⟩) hb).trans hC.f2, hC.a0, hC.a1, hC.s0, hC.s1, hC.ln, hz, fun j hj => ?_⟩⟩
  obtain ⟨g, o, e1, e2, e3, e4, e5⟩ := hC.bs' j hj
  exact ⟨g, o, e1, e2, (World.cell?_of_block (w := w) (a := ⟨g, o + j, none⟩) (u g (Nat.le_of_lt e2))).trans e3, e4, e5⟩
theorem IsF.below {w w' : World} {c B : Nat} {bs : List Int} {σ : St} (h : IsF w c bs σ) (hb : Below B w w') (hB : c < B) : IsF w' c bs σ :=
  h.same (fun k hk => hb.block k (Nat.lt_of_le_of_lt hk hB)) (Nat.lt_of_lt_of_le h.lt hb.size)
theorem pickF_bd (bs : List Int) (n : Int) (σ : St) (hb : ∀ j, j < bs.length → 0 ≤ bs.getD j 0 ∧ bs.getD j 0 < 256) (h0 : 0 ≤ σ.at') (hn : 2 ≤ n) : 0 ≤ (pickF bs n σ).1 ∧ (pickF bs n σ).1 < n ∧ σ.at' + 1 ≤ (pickF bs n σ).2.at' ∧ (pickF bs n σ).2.at' ≤ σ.at' + 2 := by
  have h1 := byteF_bd bs σ hb h0
  have h2 := byteF_bd bs (byteF bs σ).2 hb (by rw [h1.2.2]; omega)
  unfold pickF
  split
  · exact ⟨Int.emod_nonneg _ (by omega), Int.emod_lt_of_pos _ (by omega), by show σ.at' + 1 ≤ (byteF bs σ).2.at'; omega, by show (byteF bs σ).2.at' ≤ _; omega⟩
  · exact ⟨Int.emod_nonneg _ (by omega), Int.emod_lt_of_pos _ (by omega), by show σ.at' + 1 ≤ (byteF bs (byteF bs σ).2).2.at'; omega, by show (byteF bs (byteF bs σ).2).2.at' ≤ _; omega⟩
set_option maxHeartbeats 4000000 in
theorem pick_F (c : Nat) (bs : List Int) (n : Int) (σ : St) (w : World) (h : IsF w c bs σ) (hA : σ.at' < 100000000) (h1 : 2 ≤ n) (h2 : n ≤ 65536) : Calls Tryd.prog 68 #[.pointer (some ⟨c, 0, none⟩), .int .i64 n] w fun e w' => e = .returned (.int .i64 (pickF bs n σ).1) ∧ IsF w' c bs (pickF bs n σ).2 ∧ Upd c w w' := by
  have B1 := byteF_bd bs σ h.bd h.at0
  have HBD := h.bd
  have H0 := h.at0
  obtain ⟨⟨r, τ⟩, hbr⟩ : ∃ p, byteF bs σ = p := ⟨_, rfl⟩
  have HB1 : Hid (byteF bs σ = (r, τ)) := hbr
  rw [hbr] at B1
  obtain ⟨r0, r1, r2⟩ := B1
  simp only at r0 r1 r2
  by_cases h256 : n ≤ 256
  · have HR : Hid (pickF bs n σ = (r % n, τ)) := (by unfold pickF; rw [if_pos h256, hbr] : pickF bs n σ = (r % n, τ))
    rw [HR.out]
    clear hbr HBD
    have hm0 : 0 ≤ r % n := Int.emod_nonneg _ (by omega)
    have hm1 : r % n < n := Int.emod_lt_of_pos _ (by omega)
    have hn0 : (n == 0) = false := by rw [beq_eq_false_iff_ne]; omega
    go_enter Tryd.func68, Tryd.ntmps68
    go_wp2_with fail
    refine (byte_F c bs σ _ h (by omega)).mono ?_
    rw [HB1.out]
    rintro e w1 ⟨rfl, hc1, hu1⟩
    go_wp2
    go_ret
    exact ⟨rfl, hc1, hu1⟩
  · have B2 := byteF_bd bs τ HBD (by omega)
    obtain ⟨⟨q, τ'⟩, hbq⟩ : ∃ p, byteF bs τ = p := ⟨_, rfl⟩
    have HB2 : Hid (byteF bs τ = (q, τ')) := hbq
    have HR : Hid (pickF bs n σ = ((r * 256 + q) % n, τ')) := (by unfold pickF; rw [if_neg h256, hbr]; simp only []; rw [hbq] : pickF bs n σ = ((r * 256 + q) % n, τ'))
    rw [hbq] at B2
    obtain ⟨q0, q1, q2⟩ := B2
    simp only at q0 q1 q2
    rw [HR.out]
    clear hbr hbq HBD
    have hm0 : 0 ≤ (r * 256 + q) % n := Int.emod_nonneg _ (by omega)
    have hm1 : (r * 256 + q) % n < n := Int.emod_lt_of_pos _ (by omega)
    have hn0 : (n == 0) = false := by rw [beq_eq_false_iff_ne]; omega
    go_enter Tryd.func68, Tryd.ntmps68
    go_wp2_with fail
    refine (byte_F c bs σ _ h (by omega)).mono ?_
    rw [HB1.out]
    rintro e w1 ⟨rfl, hc1, hu1⟩
    go_wp2_with fail
    refine (byte_F c bs τ _ hc1 (by omega)).mono ?_
    rw [HB2.out]
    rintro e w2 ⟨rfl, hc2, hu2⟩
    go_wp2
    go_ret
    exact ⟨rfl, hc2, hu1.trans hu2⟩
def modeF (bs : List Int) (σ : St) : Int × St := (if (pickF bs 10 σ).1 = 9 then 2 else if (pickF bs 10 σ).1 = 7 ∨ (pickF bs 10 σ).1 = 8 then 1 else 0, (pickF bs 10 σ).2)
set_option maxHeartbeats 4000000 in
theorem mode_F (c : Nat) (bs : List Int) (σ : St) (w : World) (h : IsF w c bs σ) (hA : σ.at' < 100000000) : Calls Tryd.prog 66 #[.pointer (some ⟨c, 0, none⟩)] w fun e w' => e = .returned (.int .i64 (modeF bs σ).1) ∧ IsF w' c bs (modeF bs σ).2 ∧ Upd c w w' := by
  obtain ⟨m, hm⟩ : ∃ m, (pickF bs 10 σ).1 = m := ⟨_, rfl⟩
  have HR : Hid (modeF bs σ = (if m = 9 then 2 else if m = 7 ∨ m = 8 then 1 else 0, (pickF bs 10 σ).2)) := (by unfold modeF; rw [hm] : modeF bs σ = _)
  have HM : Hid ((pickF bs 10 σ).1 = m) := hm
  rw [HR.out]
  clear hm
  go_enter Tryd.func66, Tryd.ntmps66
  go_wp2_with fail
  refine (pick_F c bs 10 σ _ h hA (by omega) (by omega)).mono ?_
  rw [HM.out]
  rintro e w1 ⟨rfl, hc1, hu1⟩
  go_wp2
  all_goals
    go_ret
    refine ⟨Dr.ret_int ?_, hc1, hu1⟩
    go_light
    simp_all
end Go.Proofs.YtcgnkcehjcednaaDoor.Df
namespace Go.Proofs.YtcgnkcehjcednaaDoor.Df
open Go.ChangeShapes Go.WideShapes Go.ChangeAt Go.RowKit
open Dr (Upd)
set_option linter.unusedVariables false
set_option linter.unusedSimpArgs false
set_option maxRecDepth 100000
theorem IsF.alloc {w : World} {c : Nat} {bs : List Int} {σ : St} (h : IsF w c bs σ) (o : Obj) : IsF (w.alloc o) c bs σ := h.below (below_alloc w o) h.lt
def names14 : List ByteArray := [⟨#[97]⟩, ⟨#[98]⟩, ⟨#[116]⟩, ⟨#[117]⟩, ⟨#[105, 100]⟩, ⟨#[110, 97, 109, 101]⟩, ⟨#[113, 116, 121]⟩, ⟨#[120, 49]⟩, ⟨#[111, 114, 100, 101, 114]⟩, ⟨#[77, 121, 32, 67, 111, 108]⟩, ⟨#[97, 34, 98]⟩, ⟨#[95, 122]⟩, ⟨#[83, 101, 108, 101, 99, 116]⟩, ⟨#[118, 50]⟩]
def bits18 : List ByteArray := [⟨#[97]⟩, ⟨#[98]⟩, ⟨#[65]⟩, ⟨#[32]⟩, ⟨#[37]⟩, ⟨#[95]⟩, ⟨#[92]⟩, ⟨#[39]⟩, ⟨#[195, 169]⟩, ⟨#[230, 176, 180]⟩, ⟨#[45, 49, 50]⟩, ⟨#[51, 46, 53]⟩, ⟨#[116, 114, 117, 101]⟩, ⟨#[50, 48, 50, 48, 45, 48, 50, 45, 50, 57]⟩, ⟨#[240, 159, 152, 128]⟩, ⟨#[120, 121, 122]⟩, ⟨#[48]⟩, ⟨#[57]⟩]
theorem bits18_size (i : Nat) : (bits18.getD i ByteArray.empty).size ≤ 12 := getD_all (P := fun t : ByteArray => t.size ≤ 12) (by decide) (by decide) i
theorem names14_size (i : Nat) : (names14.getD i ByteArray.empty).size ≤ 12 := getD_all (P := fun t : ByteArray => t.size ≤ 12) (by decide) (by decide) i
/-- One of some texts. -/
def strF (l : List ByteArray) (bs : List Int) (σ : St) : ByteArray × St := (l.getD (pickF bs l.length σ).1.toNat ByteArray.empty, (pickF bs l.length σ).2)
set_option maxHeartbeats 4000000 in
theorem name_F (c : Nat) (bs : List Int) (σ : St) (w : World) (h : IsF w c bs σ) (hA : σ.at' < 100000000) : Calls Tryd.prog 151 #[.pointer (some ⟨c, 0, none⟩)] w fun e w' => e = .returned (.string (strF names14 bs σ).1) ∧ IsF w' c bs (strF names14 bs σ).2 ∧ Upd c w w' := by
  have hlt := h.lt
  have hne : w.heap.size ≠ c := by omega
  have B := pickF_bd bs 14 σ h.bd h.at0 (by omega)
  obtain ⟨⟨r, τ⟩, hr⟩ : ∃ p, pickF bs 14 σ = p := ⟨_, rfl⟩
  have HP : Hid (pickF bs 14 σ = (r, τ)) := hr
  have HR : Hid (strF names14 bs σ = (names14.getD r.toNat ByteArray.empty, τ)) := (by show (names14.getD (pickF bs 14 σ).1.toNat ByteArray.empty, (pickF bs 14 σ).2) = _; rw [hr] : strF names14 bs σ = (names14.getD r.toNat ByteArray.empty, τ))
  rw [HR.out]
  rw [hr] at B
  obtain ⟨r0, r1, _, _⟩ := B
  simp only at r0 r1
  have HS : Hid (∀ i, i < 14 → (w.alloc (.cells (names14.map Value.string).toArray 9)).cell? ⟨w.heap.size, i, none⟩ = some (.string (names14.getD i ByteArray.empty))) := fun i hi => alloc_strs w names14 i hi
  obtain ⟨t, ht⟩ : ∃ t, names14.getD r.toNat ByteArray.empty = t := ⟨_, rfl⟩
  have HT : Hid (names14.getD r.toNat ByteArray.empty = t) := ht
  rw [ht]
  clear hr ht
  go_enter Tryd.func151, Tryd.ntmps151
  go_wp2_with fail
  refine (pick_F c bs 14 σ _ (h.alloc _) hA (by omega) (by omega)).mono ?_
  rw [HP.out]
  rintro e w1 ⟨rfl, hc1, hu1⟩
  have hcell : w1.cell? ⟨w.heap.size, r.toNat, none⟩ = some (.string t) := (hu1.cell (p := ⟨w.heap.size, r.toNat, none⟩) (by simp) hne).trans ((HS.out r.toNat (by omega)).trans (by rw [HT.out]))
  have HU : Hid (Upd c w w1) := (upd_alloc c w _).trans hu1
  clear hu1 h
  go_wp2
  go_ret
  exact ⟨rfl, hc1, HU.out⟩
def textF (bs : List Int) : Nat → ByteArray → St → ByteArray × St
  | 0, o, σ => (o, σ)
  | n + 1, o, σ => textF bs n (o ++ (strF bits18 bs σ).1) (strF bits18 bs σ).2
def drawTextF (bs : List Int) (σ : St) : ByteArray × St := textF bs (pickF bs 5 σ).1.toNat ByteArray.empty (pickF bs 5 σ).2
set_option maxHeartbeats 8000000 in
theorem text_F (c : Nat) (bs : List Int) (σ : St) (w : World) (h : IsF w c bs σ) (hA : σ.at' < 10000000) : Calls Tryd.prog 139 #[.pointer (some ⟨c, 0, none⟩)] w fun e w' => e = .returned (.string (drawTextF bs σ).1) ∧ IsF w' c bs (drawTextF bs σ).2 ∧ Upd c w w' ∧ (drawTextF bs σ).1.size ≤ 48 ∧ (drawTextF bs σ).2.at' ≤ σ.at' + 20 := by
  have hlt := h.lt
  have hne : w.heap.size ≠ c := by omega
  have HBD : Hid (∀ j, j < bs.length → 0 ≤ bs.getD j 0 ∧ bs.getD j 0 < 256) := h.bd
  have H0 := h.at0
  have B := pickF_bd bs 5 σ h.bd h.at0 (by omega)
  obtain ⟨⟨r, τ⟩, hr⟩ : ∃ p, pickF bs 5 σ = p := ⟨_, rfl⟩
  have HP : Hid (pickF bs 5 σ = (r, τ)) := hr
  obtain ⟨⟨X, ρ⟩, hX⟩ : ∃ p, drawTextF bs σ = p := ⟨_, rfl⟩
  have HX : Hid (textF bs r.toNat ByteArray.empty τ = (X, ρ)) := (by rw [← hX]; unfold drawTextF; rw [hr] : textF bs r.toNat ByteArray.empty τ = (X, ρ))
  rw [hX]
  rw [hr] at B
  obtain ⟨r0, r1, r2, r3⟩ := B
  simp only at r0 r1 r2 r3
  clear hr hX
  go_enter Tryd.func139, Tryd.ntmps139
  go_wp2_with fail
  refine (pick_F c bs 5 σ _ (h.alloc _) (by omega) (by omega) (by omega)).mono ?_
  rw [HP.out]
  rintro e w1 ⟨rfl, hc1, hu1⟩
  have hl : ∀ i, i < 18 → w1.cell? ⟨w.heap.size, i, none⟩ = some (.string (bits18.getD i ByteArray.empty)) := fun i hi => (hu1.cell (p := ⟨w.heap.size, i, none⟩) (by simp) hne).trans (alloc_strs w bits18 i hi)
  have hz1 : w.heap.size < w1.heap.size := by have := hu1.size; simp at this; omega
  have HL : Hid (∀ i, i < 18 → w1.cell? ⟨w.heap.size, i, none⟩ = some (.string (bits18.getD i ByteArray.empty))) := hl
  have HU : Hid (Upd c w w1) := (upd_alloc c w _).trans hu1
  have HC1 : Hid (IsF w1 c bs τ) := hc1
  clear hl hu1 hc1 h
  go_wp2
  go_loopw [4, 5] (fun o k wr => ∃ (m : Nat) (s : ByteArray) (υ : St), m ≤ 4 ∧ k = .int .i64 m ∧ o = .string s ∧ s.size + 12 * m ≤ 48 ∧ Hid (textF bs m s υ = (X, ρ)) ∧ 0 ≤ υ.at' ∧ υ.at' ≤ σ.at' + 2 + 2 * (4 - (m : Int)) ∧ Hid (IsF wr c bs υ) ∧ Hid (Upd c w1 wr)) (fun _ k _ => (intOf k).toNat)
  case atStart => exact ⟨r.toNat, ByteArray.empty, τ, by omega, by go_num, rfl, by show 0 + 12 * r.toNat ≤ 48; omega, HX, by omega, by omega, HC1, Upd.refl _ _⟩
  case round =>
    obtain ⟨m, s, υ, hm, rfl, rfl, hs, HX2, hv0, hv1, HCR, HUR⟩ := hrel
    by_cases h0 : 0 < m
    · have h0' : (0 : Int) < m := by omega
      have hzr : w.heap.size < wr.heap.size := Nat.lt_of_lt_of_le hz1 HUR.out.size
      obtain ⟨m', rfl⟩ : ∃ m', m = m' + 1 := ⟨m - 1, by omega⟩
      have B2 := pickF_bd bs 18 υ HBD.out hv0 (by omega)
      obtain ⟨⟨q, υ'⟩, hq⟩ : ∃ p, pickF bs 18 υ = p := ⟨_, rfl⟩
      have HQ : Hid (pickF bs 18 υ = (q, υ')) := hq
      have HX3 : Hid (textF bs m' (s ++ bits18.getD q.toNat ByteArray.empty) υ' = (X, ρ)) := (by have := HX2.out; unfold textF at this; rw [show strF bits18 bs υ = (bits18.getD q.toNat ByteArray.empty, υ') by show (bits18.getD (pickF bs 18 υ).1.toNat ByteArray.empty, (pickF bs 18 υ).2) = _; rw [hq]] at this; exact this : textF bs m' (s ++ bits18.getD q.toNat ByteArray.empty) υ' = (X, ρ))
      rw [hq] at B2
      obtain ⟨q0, q1, q2, q3⟩ := B2
      simp only at q0 q1 q2 q3
      clear hq HX2
      go_wp2_with fail
      refine (pick_F c bs 18 υ _ HCR.out (by omega) (by omega) (by omega)).mono ?_
      rw [HQ.out]
      rintro e w2 ⟨rfl, hc2, hu2⟩
      have hcell : w2.cell? ⟨w.heap.size, q.toNat, none⟩ = some (.string (bits18.getD q.toNat ByteArray.empty)) := (hu2.cell (p := ⟨w.heap.size, q.toNat, none⟩) hzr hne).trans ((HUR.out.cell (p := ⟨w.heap.size, q.toNat, none⟩) hz1 hne).trans (HL.out q.toNat (by omega)))
      have hts := bits18_size q.toNat
      generalize bits18.getD q.toNat ByteArray.empty = t at *
      have HC2 : Hid (IsF w2 c bs υ') := hc2
      have HU2 : Hid (Upd c w1 w2) := HUR.out.trans hu2
      clear hc2 hu2 HUR HCR
      go_wp2
      go_roundw
      case rel => exact ⟨m', s ++ t, υ', by omega, by go_num, rfl, by simp; omega, HX3, by omega, by omega, HC2, HU2⟩
      case measure => simp [intOf]
    · have h0' : ¬ (0 : Int) < m := by omega
      obtain rfl : m = 0 := by omega
      obtain ⟨e1, e2⟩ : s = X ∧ υ = ρ := by have := HX2.out; unfold textF at this; simpa using this
      subst e1 e2
      go_wp2
      go_ret
      exact ⟨rfl, HCR.out, HU.out.trans HUR.out, by omega, by omega⟩
end Go.Proofs.YtcgnkcehjcednaaDoor.Df
namespace Go.Proofs.YtcgnkcehjcednaaDoor.Df
open Go.ChangeShapes Go.WideShapes Go.ChangeAt Go.RowKit
open Dr (Upd)
set_option linter.unusedVariables false
set_option linter.unusedSimpArgs false
set_option maxRecDepth 100000
def words11 : List ByteArray := [⟨#[115, 101, 108, 101, 99, 116]⟩, ⟨#[102, 114, 111, 109]⟩, ⟨#[119, 104, 101, 114, 101]⟩, ⟨#[97]⟩, ⟨#[98]⟩, ⟨#[97, 110, 100]⟩, ⟨#[110, 111, 116]⟩, ⟨#[110, 117, 108, 108]⟩, ⟨#[95, 120, 57]⟩, ⟨#[111, 114, 100, 101, 114]⟩, ⟨#[120]⟩]
theorem words11_size (i : Nat) : (words11.getD i ByteArray.empty).size ≤ 48 := getD_all (P := fun t : ByteArray => t.size ≤ 48) (by decide) (by decide) i
def ints5 : List ByteArray := [⟨#[48]⟩, ⟨#[49]⟩, ⟨#[52, 50]⟩, ⟨#[57, 50, 50, 51, 51, 55, 50, 48, 51, 54, 56, 53, 52, 55, 55, 53, 56, 48, 55]⟩, ⟨#[49, 48, 48, 48]⟩]
theorem ints5_size (i : Nat) : (ints5.getD i ByteArray.empty).size ≤ 48 := getD_all (P := fun t : ByteArray => t.size ≤ 48) (by decide) (by decide) i
def decs5 : List ByteArray := [⟨#[48, 46, 53]⟩, ⟨#[49, 50, 46, 50, 53]⟩, ⟨#[57, 57, 57, 57, 57, 57, 57, 57, 57, 57, 57, 57, 57, 57, 46, 57, 57, 57, 57]⟩, ⟨#[48, 46, 48, 48, 48, 49]⟩, ⟨#[49, 46, 48]⟩]
theorem decs5_size (i : Nat) : (decs5.getD i ByteArray.empty).size ≤ 48 := getD_all (P := fun t : ByteArray => t.size ≤ 48) (by decide) (by decide) i
def signs17 : List ByteArray := [⟨#[60, 61]⟩, ⟨#[62, 61]⟩, ⟨#[60, 62]⟩, ⟨#[124, 124]⟩, ⟨#[40]⟩, ⟨#[41]⟩, ⟨#[44]⟩, ⟨#[46]⟩, ⟨#[59]⟩, ⟨#[43]⟩, ⟨#[45]⟩, ⟨#[42]⟩, ⟨#[47]⟩, ⟨#[37]⟩, ⟨#[61]⟩, ⟨#[60]⟩, ⟨#[62]⟩]
theorem signs17_size (i : Nat) : (signs17.getD i ByteArray.empty).size ≤ 48 := getD_all (P := fun t : ByteArray => t.size ≤ 48) (by decide) (by decide) i
theorem names_size (i : Nat) : (names14.getD i ByteArray.empty).size ≤ 48 := Nat.le_trans (names14_size i) (by decide)
theorem Upd.then {c B : Nat} {w w1 w2 : World} (h : Upd c w w1) (hb : Below B w1 w2) (hB : w.heap.size ≤ B) : Upd c w w2 :=
  ⟨hb.os.trans h.os, hb.tape.trans h.tape, hb.output.trans h.output, Nat.le_trans h.size hb.size, fun k hk hc => (hb.block k (Nat.lt_of_lt_of_le hk hB)).trans (h.block k hk hc)⟩
theorem ucell {c : Nat} {W w1 : World} (hb : Upd c W w1) : (∀ b o, b < W.heap.size → b ≠ c → w1.cell? ⟨b, o, none⟩ = W.cell? ⟨b, o, none⟩) ∧ (∀ b o, b < W.heap.size → b ≠ c → w1.frozen? ⟨b, o, none⟩ = W.frozen? ⟨b, o, none⟩) :=
  ⟨fun b o h h' => hb.cell (p := ⟨b, o, none⟩) h h', fun b o h h' => hb.frozen (p := ⟨b, o, none⟩) h h'⟩
/-- A drawn token: its kind, its text. -/
def tokF (bs : List Int) (σ : St) : (Int × ByteArray) × St :=
  let r := (pickF bs 8 σ).1
  let τ := (pickF bs 8 σ).2
  if r = 0 ∨ r = 1 then ((1, (strF words11 bs τ).1), (strF words11 bs τ).2)
  else if r = 2 then ((2, (strF names14 bs τ).1), (strF names14 bs τ).2)
  else if r = 3 then ((3, (strF ints5 bs τ).1), (strF ints5 bs τ).2)
  else if r = 4 then ((4, (strF decs5 bs τ).1), (strF decs5 bs τ).2)
  else if r = 5 then ((5, (drawTextF bs τ).1), (drawTextF bs τ).2)
  else ((6, (strF signs17 bs τ).1), (strF signs17 bs τ).2)
/-- What a drawn token leaves. -/
def TokPost (c : Nat) (bs : List Int) (σ : St) (w : World) (e : Ending) (w' : World) : Prop :=
  e = .returned (.agg #[.int .i64 (tokF bs σ).1.1, .string (tokF bs σ).1.2, .int .i64 0]) ∧ IsF w' c bs (tokF bs σ).2 ∧ Upd c w w' ∧ (tokF bs σ).1.2.size ≤ 48 ∧ 0 ≤ (tokF bs σ).2.at' ∧ (tokF bs σ).2.at' ≤ σ.at' + 30
theorem tokPost_mk {c : Nat} {bs : List Int} {σ ρ : St} {w w1 w2 : World} {k : Int} {x : ByteArray} (hr : tokF bs σ = ((k, x), ρ)) (hlt : c < w.heap.size) (hc : IsF w1 c bs ρ) (hu : Upd c w w1) (hb : Below w.heap.size w1 w2) (hx : x.size ≤ 48) (ha : ρ.at' ≤ σ.at' + 30) : TokPost c bs σ w (.returned (.agg #[.int .i64 k, .string x, .int .i64 0])) w2 := by
  unfold TokPost
  rw [hr]
  exact ⟨rfl, hc.below hb hlt, Upd.then hu hb (Nat.le_refl _), hx, hc.at0, ha⟩
set_option maxHeartbeats 16000000 in
theorem tok_F (c : Nat) (bs : List Int) (σ : St) (w : World) (h : IsF w c bs σ) (hA : σ.at' < 1000000) : Calls Tryd.prog 109 #[.pointer (some ⟨c, 0, none⟩)] w fun e w' => TokPost c bs σ w e w' := by
  have hlt := h.lt
  have hne : w.heap.size ≠ c := by omega
  have HBD : Hid (∀ j, j < bs.length → 0 ≤ bs.getD j 0 ∧ bs.getD j 0 < 256) := h.bd
  have H0 := h.at0
  have B := pickF_bd bs 8 σ h.bd h.at0 (by omega)
  obtain ⟨⟨r, τ⟩, hr⟩ : ∃ p, pickF bs 8 σ = p := ⟨_, rfl⟩
  have HP : Hid (pickF bs 8 σ = (r, τ)) := hr
  rw [hr] at B
  obtain ⟨r0, r1, r2, r3⟩ := B
  simp only at r0 r1 r2 r3
  have hτ0 : 0 ≤ τ.at' := by omega
  by_cases e0 : r = 0
  · subst e0
    have B2 := pickF_bd bs 11 τ HBD.out hτ0 (by omega)
    obtain ⟨⟨q, ρ⟩, hq⟩ : ∃ p, pickF bs 11 τ = p := ⟨_, rfl⟩
    have HQ : Hid (pickF bs 11 τ = (q, ρ)) := hq
    have hstr : strF words11 bs τ = (words11.getD q.toNat ByteArray.empty, ρ) := by show (words11.getD (pickF bs 11 τ).1.toNat ByteArray.empty, (pickF bs 11 τ).2) = _; rw [hq]
    obtain ⟨t, ht⟩ : ∃ t, words11.getD q.toNat ByteArray.empty = t := ⟨_, rfl⟩
    have HT : Hid (words11.getD q.toNat ByteArray.empty = t) := ht
    have HTS : Hid (t.size ≤ 48) := (by rw [← ht]; exact words11_size _ : t.size ≤ 48)
    have HR : Hid (tokF bs σ = ((1, t), ρ)) := (by unfold tokF; rw [hr]; simp only []; rw [hstr, ht]; simp : tokF bs σ = ((1, t), ρ))
    rw [hq] at B2
    obtain ⟨q0, q1, q2, q3⟩ := B2
    simp only at q0 q1 q2 q3
    clear hq hstr ht hr
    go_enter Tryd.func109, Tryd.ntmps109
    go_wp2_with fail
    refine (pick_F c bs 8 σ _ (h.alloc _) (by omega) (by omega) (by omega)).mono ?_
    rw [HP.out]
    rintro e w1 ⟨rfl, hc1, hu1⟩
    obtain ⟨hk1, hf1⟩ := ucell hu1
    have hz1 : w.heap.size < w1.heap.size := by have := hu1.size; simp at this; omega
    have hne1 : w1.heap.size ≠ c := by omega
    have HU1 : Hid (Upd c w w1) := (upd_alloc c w _).trans hu1
    clear h hu1
    go_wp2_with fail
    refine (pick_F c bs 11 τ _ (hc1.alloc _) (by omega) (by omega) (by omega)).mono ?_
    rw [HQ.out]
    rintro e w2 ⟨rfl, hc2, hu2⟩
    have hcell : w2.cell? ⟨w1.heap.size, q.toNat, none⟩ = some (.string t) := (hu2.cell (p := ⟨w1.heap.size, q.toNat, none⟩) (by simp) hne1).trans ((alloc_strs w1 words11 q.toNat (by show q.toNat < 11; omega)).trans (by rw [HT.out]))
    obtain ⟨hk2, hf2⟩ := ucell hu2
    have hz2 : w1.heap.size < w2.heap.size := by have := hu2.size; simp at this; omega
    have hy2 : w.heap.size < w2.heap.size := by omega
    have hw1 : w.heap.size < w1.heap.size + 1 := by omega
    have HU2 : Hid (Upd c w w2) := HU1.out.trans ((upd_alloc c w1 _).trans hu2)
    clear hu2 hc1
    go_wp2
    refine bodyPost_ret (v := .agg #[.int .i64 1, .string t, .int .i64 0]) (by simp [results, Tryd.results109, go_sem, hk1, hf1, hz1, hk2, hf2, hz2, hy2, hw1, hne]) rfl ?_
    refine tokPost_mk HR.out hlt hc2 HU2.out ?_ HTS.out (by omega)
    (go_light; repeat (first | with_reducible exact Below.refl _ _ | (with_reducible refine Below.setCell ?_ ?_ _; rotate_left; (focus first | (simp; done) | (simp; omega) | omega)) | (with_reducible refine Below.alloc ?_ ?_ _; rotate_left; (focus first | (simp; done) | (simp; omega) | omega)) | with_reducible refine Below.drew ?_))
  by_cases e1 : r = 1
  · subst e1
    clear e0
    have B2 := pickF_bd bs 11 τ HBD.out hτ0 (by omega)
    obtain ⟨⟨q, ρ⟩, hq⟩ : ∃ p, pickF bs 11 τ = p := ⟨_, rfl⟩
    have HQ : Hid (pickF bs 11 τ = (q, ρ)) := hq
    have hstr : strF words11 bs τ = (words11.getD q.toNat ByteArray.empty, ρ) := by show (words11.getD (pickF bs 11 τ).1.toNat ByteArray.empty, (pickF bs 11 τ).2) = _; rw [hq]
    obtain ⟨t, ht⟩ : ∃ t, words11.getD q.toNat ByteArray.empty = t := ⟨_, rfl⟩
    have HT : Hid (words11.getD q.toNat ByteArray.empty = t) := ht
    have HTS : Hid (t.size ≤ 48) := (by rw [← ht]; exact words11_size _ : t.size ≤ 48)
    have HR : Hid (tokF bs σ = ((1, t), ρ)) := (by unfold tokF; rw [hr]; simp only []; rw [hstr, ht]; simp : tokF bs σ = ((1, t), ρ))
    rw [hq] at B2
    obtain ⟨q0, q1, q2, q3⟩ := B2
    simp only at q0 q1 q2 q3
    clear hq hstr ht hr
    go_enter Tryd.func109, Tryd.ntmps109
    go_wp2_with fail
    refine (pick_F c bs 8 σ _ (h.alloc _) (by omega) (by omega) (by omega)).mono ?_
    rw [HP.out]
    rintro e w1 ⟨rfl, hc1, hu1⟩
    obtain ⟨hk1, hf1⟩ := ucell hu1
    have hz1 : w.heap.size < w1.heap.size := by have := hu1.size; simp at this; omega
    have hne1 : w1.heap.size ≠ c := by omega
    have HU1 : Hid (Upd c w w1) := (upd_alloc c w _).trans hu1
    clear h hu1
    go_wp2_with fail
    refine (pick_F c bs 11 τ _ (hc1.alloc _) (by omega) (by omega) (by omega)).mono ?_
    rw [HQ.out]
    rintro e w2 ⟨rfl, hc2, hu2⟩
    have hcell : w2.cell? ⟨w1.heap.size, q.toNat, none⟩ = some (.string t) := (hu2.cell (p := ⟨w1.heap.size, q.toNat, none⟩) (by simp) hne1).trans ((alloc_strs w1 words11 q.toNat (by show q.toNat < 11; omega)).trans (by rw [HT.out]))
    obtain ⟨hk2, hf2⟩ := ucell hu2
    have hz2 : w1.heap.size < w2.heap.size := by have := hu2.size; simp at this; omega
    have hy2 : w.heap.size < w2.heap.size := by omega
    have hw1 : w.heap.size < w1.heap.size + 1 := by omega
    have HU2 : Hid (Upd c w w2) := HU1.out.trans ((upd_alloc c w1 _).trans hu2)
    clear hu2 hc1
    go_wp2
    refine bodyPost_ret (v := .agg #[.int .i64 1, .string t, .int .i64 0]) (by simp [results, Tryd.results109, go_sem, hk1, hf1, hz1, hk2, hf2, hz2, hy2, hw1, hne]) rfl ?_
    refine tokPost_mk HR.out hlt hc2 HU2.out ?_ HTS.out (by omega)
    (go_light; repeat (first | with_reducible exact Below.refl _ _ | (with_reducible refine Below.setCell ?_ ?_ _; rotate_left; (focus first | (simp; done) | (simp; omega) | omega)) | (with_reducible refine Below.alloc ?_ ?_ _; rotate_left; (focus first | (simp; done) | (simp; omega) | omega)) | with_reducible refine Below.drew ?_))
  have x0 : (r == 0) = false := by simpa using e0
  have x1 : (r == 1) = false := by simpa using e1
  by_cases e2 : r = 2
  · subst e2
    clear e0 e1 x0 x1
    have B2 := pickF_bd bs 14 τ HBD.out hτ0 (by omega)
    obtain ⟨⟨t, ρ⟩, hq⟩ : ∃ p, strF names14 bs τ = p := ⟨_, rfl⟩
    have HQ : Hid (strF names14 bs τ = (t, ρ)) := hq
    have hρ : ρ = (pickF bs 14 τ).2 := by have := congrArg Prod.snd hq; exact this.symm
    have ht : t = names14.getD (pickF bs 14 τ).1.toNat ByteArray.empty := by have := congrArg Prod.fst hq; exact this.symm
    have HTS : Hid (t.size ≤ 48) := (by rw [ht]; exact names_size _ : t.size ≤ 48)
    have HR : Hid (tokF bs σ = ((2, t), ρ)) := (by unfold tokF; rw [hr]; simp only []; rw [hq]; simp : tokF bs σ = ((2, t), ρ))
    rw [← hρ] at B2
    obtain ⟨_, _, q2, q3⟩ := B2
    clear hq hr hρ ht
    go_enter Tryd.func109, Tryd.ntmps109
    go_wp2_with fail
    refine (pick_F c bs 8 σ _ (h.alloc _) (by omega) (by omega) (by omega)).mono ?_
    rw [HP.out]
    rintro e w1 ⟨rfl, hc1, hu1⟩
    obtain ⟨hk1, hf1⟩ := ucell hu1
    have hz1 : w.heap.size < w1.heap.size := by have := hu1.size; simp at this; omega
    have HU1 : Hid (Upd c w w1) := (upd_alloc c w _).trans hu1
    clear h hu1
    go_wp2_with fail
    refine (name_F c bs τ _ hc1 (by omega)).mono ?_
    rw [HQ.out]
    rintro e w2 ⟨rfl, hc2, hu2⟩
    obtain ⟨hk2, hf2⟩ := ucell hu2
    have hy2 : w.heap.size < w2.heap.size := by have := hu2.size; omega
    have HU2 : Hid (Upd c w w2) := HU1.out.trans hu2
    clear hu2 hc1
    go_wp2
    refine bodyPost_ret (v := .agg #[.int .i64 2, .string t, .int .i64 0]) (by simp [results, Tryd.results109, go_sem, hk1, hf1, hz1, hk2, hf2, hy2, hne]) rfl ?_
    refine tokPost_mk HR.out hlt hc2 HU2.out ?_ HTS.out (by omega)
    (go_light; repeat (first | with_reducible exact Below.refl _ _ | (with_reducible refine Below.setCell ?_ ?_ _; rotate_left; (focus first | (simp; done) | (simp; omega) | omega)) | (with_reducible refine Below.alloc ?_ ?_ _; rotate_left; (focus first | (simp; done) | (simp; omega) | omega)) | with_reducible refine Below.drew ?_))
  have x2 : (r == 2) = false := by simpa using e2
  by_cases e3 : r = 3
  · subst e3
    clear e0 e1 e2 x0 x1 x2
    have B2 := pickF_bd bs 5 τ HBD.out hτ0 (by omega)
    obtain ⟨⟨q, ρ⟩, hq⟩ : ∃ p, pickF bs 5 τ = p := ⟨_, rfl⟩
    have HQ : Hid (pickF bs 5 τ = (q, ρ)) := hq
    have hstr : strF ints5 bs τ = (ints5.getD q.toNat ByteArray.empty, ρ) := by show (ints5.getD (pickF bs 5 τ).1.toNat ByteArray.empty, (pickF bs 5 τ).2) = _; rw [hq]
    obtain ⟨t, ht⟩ : ∃ t, ints5.getD q.toNat ByteArray.empty = t := ⟨_, rfl⟩
    have HT : Hid (ints5.getD q.toNat ByteArray.empty = t) := ht
    have HTS : Hid (t.size ≤ 48) := (by rw [← ht]; exact ints5_size _ : t.size ≤ 48)
    have HR : Hid (tokF bs σ = ((3, t), ρ)) := (by unfold tokF; rw [hr]; simp only []; rw [hstr, ht]; simp : tokF bs σ = ((3, t), ρ))
    rw [hq] at B2
    obtain ⟨q0, q1, q2, q3⟩ := B2
    simp only at q0 q1 q2 q3
    clear hq hstr ht hr
    go_enter Tryd.func109, Tryd.ntmps109
    go_wp2_with fail
    refine (pick_F c bs 8 σ _ (h.alloc _) (by omega) (by omega) (by omega)).mono ?_
    rw [HP.out]
    rintro e w1 ⟨rfl, hc1, hu1⟩
    obtain ⟨hk1, hf1⟩ := ucell hu1
    have hz1 : w.heap.size < w1.heap.size := by have := hu1.size; simp at this; omega
    have hne1 : w1.heap.size ≠ c := by omega
    have HU1 : Hid (Upd c w w1) := (upd_alloc c w _).trans hu1
    clear h hu1
    go_wp2_with fail
    refine (pick_F c bs 5 τ _ (hc1.alloc _) (by omega) (by omega) (by omega)).mono ?_
    rw [HQ.out]
    rintro e w2 ⟨rfl, hc2, hu2⟩
    have hcell : w2.cell? ⟨w1.heap.size, q.toNat, none⟩ = some (.string t) := (hu2.cell (p := ⟨w1.heap.size, q.toNat, none⟩) (by simp) hne1).trans ((alloc_strs w1 ints5 q.toNat (by show q.toNat < 5; omega)).trans (by rw [HT.out]))
    obtain ⟨hk2, hf2⟩ := ucell hu2
    have hz2 : w1.heap.size < w2.heap.size := by have := hu2.size; simp at this; omega
    have hy2 : w.heap.size < w2.heap.size := by omega
    have hw1 : w.heap.size < w1.heap.size + 1 := by omega
    have HU2 : Hid (Upd c w w2) := HU1.out.trans ((upd_alloc c w1 _).trans hu2)
    clear hu2 hc1
    go_wp2
    refine bodyPost_ret (v := .agg #[.int .i64 3, .string t, .int .i64 0]) (by simp [results, Tryd.results109, go_sem, hk1, hf1, hz1, hk2, hf2, hz2, hy2, hw1, hne]) rfl ?_
    refine tokPost_mk HR.out hlt hc2 HU2.out ?_ HTS.out (by omega)
    (go_light; repeat (first | with_reducible exact Below.refl _ _ | (with_reducible refine Below.setCell ?_ ?_ _; rotate_left; (focus first | (simp; done) | (simp; omega) | omega)) | (with_reducible refine Below.alloc ?_ ?_ _; rotate_left; (focus first | (simp; done) | (simp; omega) | omega)) | with_reducible refine Below.drew ?_))
  have x3 : (r == 3) = false := by simpa using e3
  by_cases e4 : r = 4
  · subst e4
    clear e0 e1 e2 e3 x0 x1 x2 x3
    have B2 := pickF_bd bs 5 τ HBD.out hτ0 (by omega)
    obtain ⟨⟨q, ρ⟩, hq⟩ : ∃ p, pickF bs 5 τ = p := ⟨_, rfl⟩
    have HQ : Hid (pickF bs 5 τ = (q, ρ)) := hq
    have hstr : strF decs5 bs τ = (decs5.getD q.toNat ByteArray.empty, ρ) := by show (decs5.getD (pickF bs 5 τ).1.toNat ByteArray.empty, (pickF bs 5 τ).2) = _; rw [hq]
    obtain ⟨t, ht⟩ : ∃ t, decs5.getD q.toNat ByteArray.empty = t := ⟨_, rfl⟩
    have HT : Hid (decs5.getD q.toNat ByteArray.empty = t) := ht
    have HTS : Hid (t.size ≤ 48) := (by rw [← ht]; exact decs5_size _ : t.size ≤ 48)
    have HR : Hid (tokF bs σ = ((4, t), ρ)) := (by unfold tokF; rw [hr]; simp only []; rw [hstr, ht]; simp : tokF bs σ = ((4, t), ρ))
    rw [hq] at B2
    obtain ⟨q0, q1, q2, q3⟩ := B2
    simp only at q0 q1 q2 q3
    clear hq hstr ht hr
    go_enter Tryd.func109, Tryd.ntmps109
    go_wp2_with fail
    refine (pick_F c bs 8 σ _ (h.alloc _) (by omega) (by omega) (by omega)).mono ?_
    rw [HP.out]
    rintro e w1 ⟨rfl, hc1, hu1⟩
    obtain ⟨hk1, hf1⟩ := ucell hu1
    have hz1 : w.heap.size < w1.heap.size := by have := hu1.size; simp at this; omega
    have hne1 : w1.heap.size ≠ c := by omega
    have HU1 : Hid (Upd c w w1) := (upd_alloc c w _).trans hu1
    clear h hu1
    go_wp2_with fail
    refine (pick_F c bs 5 τ _ (hc1.alloc _) (by omega) (by omega) (by omega)).mono ?_
    rw [HQ.out]
    rintro e w2 ⟨rfl, hc2, hu2⟩
    have hcell : w2.cell? ⟨w1.heap.size, q.toNat, none⟩ = some (.string t) := (hu2.cell (p := ⟨w1.heap.size, q.toNat, none⟩) (by simp) hne1).trans ((alloc_strs w1 decs5 q.toNat (by show q.toNat < 5; omega)).trans (by rw [HT.out]))
    obtain ⟨hk2, hf2⟩ := ucell hu2
    have hz2 : w1.heap.size < w2.heap.size := by have := hu2.size; simp at this; omega
    have hy2 : w.heap.size < w2.heap.size := by omega
    have hw1 : w.heap.size < w1.heap.size + 1 := by omega
    have HU2 : Hid (Upd c w w2) := HU1.out.trans ((upd_alloc c w1 _).trans hu2)
    clear hu2 hc1
    go_wp2
    refine bodyPost_ret (v := .agg #[.int .i64 4, .string t, .int .i64 0]) (by simp [results, Tryd.results109, go_sem, hk1, hf1, hz1, hk2, hf2, hz2, hy2, hw1, hne]) rfl ?_
    refine tokPost_mk HR.out hlt hc2 HU2.out ?_ HTS.out (by omega)
    (go_light; repeat (first | with_reducible exact Below.refl _ _ | (with_reducible refine Below.setCell ?_ ?_ _; rotate_left; (focus first | (simp; done) | (simp; omega) | omega)) | (with_reducible refine Below.alloc ?_ ?_ _; rotate_left; (focus first | (simp; done) | (simp; omega) | omega)) | with_reducible refine Below.drew ?_))
  have x4 : (r == 4) = false := by simpa using e4
  by_cases e5 : r = 5
  · subst e5
    clear e0 e1 e2 e3 e4 x0 x1 x2 x3 x4
    obtain ⟨⟨t, ρ⟩, hq⟩ : ∃ p, drawTextF bs τ = p := ⟨_, rfl⟩
    have HQ : Hid (drawTextF bs τ = (t, ρ)) := hq
    have HR : Hid (tokF bs σ = ((5, t), ρ)) := (by unfold tokF; rw [hr]; simp only []; rw [hq]; simp : tokF bs σ = ((5, t), ρ))
    clear hq hr
    go_enter Tryd.func109, Tryd.ntmps109
    go_wp2_with fail
    refine (pick_F c bs 8 σ _ (h.alloc _) (by omega) (by omega) (by omega)).mono ?_
    rw [HP.out]
    rintro e w1 ⟨rfl, hc1, hu1⟩
    obtain ⟨hk1, hf1⟩ := ucell hu1
    have hz1 : w.heap.size < w1.heap.size := by have := hu1.size; simp at this; omega
    have HU1 : Hid (Upd c w w1) := (upd_alloc c w _).trans hu1
    clear h hu1
    go_wp2_with fail
    refine (text_F c bs τ _ hc1 (by omega)).mono ?_
    rw [HQ.out]
    rintro e w2 ⟨rfl, hc2, hu2, hs2, ha2⟩
    have HTS : Hid (t.size ≤ 48) := hs2
    have HAT : Hid (ρ.at' ≤ τ.at' + 20) := ha2
    obtain ⟨hk2, hf2⟩ := ucell hu2
    have hy2 : w.heap.size < w2.heap.size := by have := hu2.size; omega
    have HU2 : Hid (Upd c w w2) := HU1.out.trans hu2
    clear hu2 hc1 hs2 ha2
    go_wp2
    refine bodyPost_ret (v := .agg #[.int .i64 5, .string t, .int .i64 0]) (by simp [results, Tryd.results109, go_sem, hk1, hf1, hz1, hk2, hf2, hy2, hne]) rfl ?_
    refine tokPost_mk HR.out hlt hc2 HU2.out ?_ HTS.out (by have := HAT.out; omega)
    (go_light; repeat (first | with_reducible exact Below.refl _ _ | (with_reducible refine Below.setCell ?_ ?_ _; rotate_left; (focus first | (simp; done) | (simp; omega) | omega)) | (with_reducible refine Below.alloc ?_ ?_ _; rotate_left; (focus first | (simp; done) | (simp; omega) | omega)) | with_reducible refine Below.drew ?_))
  have x5 : (r == 5) = false := by simpa using e5
  have B2 := pickF_bd bs 17 τ HBD.out hτ0 (by omega)
  obtain ⟨⟨q, ρ⟩, hq⟩ : ∃ p, pickF bs 17 τ = p := ⟨_, rfl⟩
  have HQ : Hid (pickF bs 17 τ = (q, ρ)) := hq
  have hstr : strF signs17 bs τ = (signs17.getD q.toNat ByteArray.empty, ρ) := by show (signs17.getD (pickF bs 17 τ).1.toNat ByteArray.empty, (pickF bs 17 τ).2) = _; rw [hq]
  obtain ⟨t, ht⟩ : ∃ t, signs17.getD q.toNat ByteArray.empty = t := ⟨_, rfl⟩
  have HT : Hid (signs17.getD q.toNat ByteArray.empty = t) := ht
  have HTS : Hid (t.size ≤ 48) := (by rw [← ht]; exact signs17_size _ : t.size ≤ 48)
  have HR : Hid (tokF bs σ = ((6, t), ρ)) := (by unfold tokF; rw [hr]; simp only []; rw [hstr, ht]; simp [e0, e1, e2, e3, e4, e5] : tokF bs σ = ((6, t), ρ))
  rw [hq] at B2
  obtain ⟨q0, q1, q2, q3⟩ := B2
  simp only at q0 q1 q2 q3
  clear hq hstr ht hr e0 e1 e2 e3 e4 e5
  go_enter Tryd.func109, Tryd.ntmps109
  go_wp2_with fail
  refine (pick_F c bs 8 σ _ (h.alloc _) (by omega) (by omega) (by omega)).mono ?_
  rw [HP.out]
  rintro e w1 ⟨rfl, hc1, hu1⟩
  obtain ⟨hk1, hf1⟩ := ucell hu1
  have hz1 : w.heap.size < w1.heap.size := by have := hu1.size; simp at this; omega
  have hne1 : w1.heap.size ≠ c := by omega
  have HU1 : Hid (Upd c w w1) := (upd_alloc c w _).trans hu1
  clear h hu1
  go_wp2_with fail
  refine (pick_F c bs 17 τ _ (hc1.alloc _) (by omega) (by omega) (by omega)).mono ?_
  rw [HQ.out]
  rintro e w2 ⟨rfl, hc2, hu2⟩
  have hcell : w2.cell? ⟨w1.heap.size, q.toNat, none⟩ = some (.string t) := (hu2.cell (p := ⟨w1.heap.size, q.toNat, none⟩) (by simp) hne1).trans ((alloc_strs w1 signs17 q.toNat (by show q.toNat < 17; omega)).trans (by rw [HT.out]))
  obtain ⟨hk2, hf2⟩ := ucell hu2
  have hz2 : w1.heap.size < w2.heap.size := by have := hu2.size; simp at this; omega
  have hy2 : w.heap.size < w2.heap.size := by omega
  have hw1 : w.heap.size < w1.heap.size + 1 := by omega
  have HU2 : Hid (Upd c w w2) := HU1.out.trans ((upd_alloc c w1 _).trans hu2)
  clear hu2 hc1
  go_wp2
  refine bodyPost_ret (v := .agg #[.int .i64 6, .string t, .int .i64 0]) (by simp [results, Tryd.results109, go_sem, hk1, hf1, hz1, hk2, hf2, hz2, hy2, hw1, hne]) rfl ?_
  refine tokPost_mk HR.out hlt hc2 HU2.out ?_ HTS.out (by omega)
  (go_light; repeat (first | with_reducible exact Below.refl _ _ | (with_reducible refine Below.setCell ?_ ?_ _; rotate_left; (focus first | (simp; done) | (simp; omega) | omega)) | (with_reducible refine Below.alloc ?_ ?_ _; rotate_left; (focus first | (simp; done) | (simp; omega) | omega)) | with_reducible refine Below.drew ?_))
end Go.Proofs.YtcgnkcehjcednaaDoor.Df
namespace Go.Proofs.YtcgnkcehjcednaaDoor.Df
open Go.ChangeShapes Go.WideShapes Go.ChangeAt Go.RowKit
set_option linter.unusedVariables false
set_option linter.unusedSimpArgs false
set_option maxRecDepth 100000
theorem info47' : (Tryd.prog.info? 47).map (fun i => (i.zero, i.size, i.bytes)) = some (some (.agg #[.int .i64 0, .string ⟨#[]⟩, .int .i64 0]), 3, 32) := by kernel_rfl
abbrev Tk := Int × ByteArray × Int
def tkc (l : List Tk) : List Value := l.flatMap fun t => [.int .i64 t.1, .string t.2.1, .int .i64 t.2.2]
theorem tkc_snoc (l : List Tk) (k : Int) (x : ByteArray) (p : Int) : tkc (l ++ [(k, x, p)]) = tkc l ++ [.int .i64 k, .string x, .int .i64 p] := by simp [tkc]
/-- A block that holds a token, free to be written. -/
structure HT (w : World) (b : Nat) (k : Int) (x : ByteArray) (n : Int) : Prop where
  c0 : w.cell? ⟨b, 0, none⟩ = some (.int .i64 k)
  c1 : w.cell? ⟨b, 1, none⟩ = some (.string x)
  c2 : w.cell? ⟨b, 2, none⟩ = some (.int .i64 n)
  f0 : w.frozen? ⟨b, 0, none⟩ = false
  f1 : w.frozen? ⟨b, 1, none⟩ = false
  f2 : w.frozen? ⟨b, 2, none⟩ = false
  lt : b < w.heap.size
theorem HT.upd {c : Nat} {w w' : World} {b : Nat} {k n : Int} {x : ByteArray} (h : HT w b k x n) (u : Dr.Upd c w w') (hb : b ≠ c) : HT w' b k x n :=
  ⟨(u.cell (p := ⟨b, 0, none⟩) h.lt hb).trans h.c0, (u.cell (p := ⟨b, 1, none⟩) h.lt hb).trans h.c1, (u.cell (p := ⟨b, 2, none⟩) h.lt hb).trans h.c2,
   (u.frozen (p := ⟨b, 0, none⟩) h.lt hb).trans h.f0, (u.frozen (p := ⟨b, 1, none⟩) h.lt hb).trans h.f1, (u.frozen (p := ⟨b, 2, none⟩) h.lt hb).trans h.f2, Nat.lt_of_lt_of_le h.lt u.size⟩
def listF (bs : List Int) : Nat → List Tk → St → List Tk × St
  | 0, acc, σ => (acc, σ)
  | n + 1, acc, σ => listF bs n (acc ++ [((tokF bs σ).1.1, (tokF bs σ).1.2, (pickF bs 50 (tokF bs σ).2).1)]) (pickF bs 50 (tokF bs σ).2).2
def cntF (bs : List Int) (σ : St) : Nat := if (pickF bs 12 σ).1 = 11 then 60 else (pickF bs 12 σ).1.toNat
def drawListF (bs : List Int) (σ : St) : List Tk × St := listF bs (cntF bs σ) [] (pickF bs 12 σ).2
/-- Some tokens are drawn. -/
structure LR (bs : List Int) (c : Nat) (A : Int) (w wr : World) (v : Value) (M i : Nat) (acc : List Tk) (υ : St) (X : List Tk × St) : Prop where
  len : acc.length = i
  own : wr.ownsRow w.heap.size 47 3 v i (tkc acc)
  isf : IsF wr c bs υ
  upd : Dr.Upd c w wr
  fin : listF bs (M - i) acc υ = X
  sz : ∀ t ∈ acc, t.2.1.size ≤ 48
  at0 : 0 ≤ υ.at'
  atA : υ.at' ≤ A + 32 * (i : Int)
theorem grown_all {c : Nat} {w w5 w6 : World} {v v' : Value} {n m : Nat} {xs ys : List Value} {bs : List Int} {υ : St} (ho5 : w5.ownsRow w.heap.size 47 3 v n xs) (hc5 : IsF w5 c bs υ) (hcw : c < w.heap.size) (hu5 : Dr.Upd c w w5) (o : Obj)
    (hgrow : (w5.alloc o).grownBy w6 v.ownBlock) : IsF w6 c bs υ ∧ Dr.Upd c w w6 := by
  have hlt5 := hc5.lt
  have hz5 := hu5.size
  have hblk : ∀ j, j < w5.heap.size → some j ≠ v.ownBlock → w6.heap[j]? = w5.heap[j]? := fun j hj hn => (hgrow.block j (by simp; omega) hn).trans (Below.heap_alloc _ _ _ hj)
  have hrow : ∀ j, j < w.heap.size → some j ≠ v.ownBlock := fun j hj e => by have := (ho5.lt j e.symm).1; omega
  have hsz : w5.heap.size ≤ w6.heap.size := by have := hgrow.size; simp at this; omega
  exact ⟨hc5.same (fun j hj => hblk j (by omega) (hrow j (by omega))) (by omega), ⟨hgrow.os.trans hu5.os, hgrow.tape.trans hu5.tape, hgrow.output.trans hu5.output, Nat.le_trans hz5 hsz, fun j hj hn => (hblk j (by omega) (hrow j hj)).trans (hu5.block j hj hn)⟩⟩
def ListPost (bs : List Int) (c : Nat) (σ : St) (w : World) (e : Ending) (w' : World) : Prop :=
  ∃ v, e = .returned v ∧ w'.ownsRow w.heap.size 47 3 v (drawListF bs σ).1.length (tkc (drawListF bs σ).1) ∧ IsF w' c bs (drawListF bs σ).2 ∧ Dr.Upd c w w' ∧ (∀ t ∈ (drawListF bs σ).1, t.2.1.size ≤ 48) ∧ (drawListF bs σ).1.length ≤ 60 ∧ 0 ≤ (drawListF bs σ).2.at' ∧ (drawListF bs σ).2.at' ≤ σ.at' + 2000
set_option maxHeartbeats 16000000 in
theorem list_F (c : Nat) (bs : List Int) (σ : St) (w : World) (h : IsF w c bs σ) (hA : σ.at' < 100000) : Calls Tryd.prog 67 #[.pointer (some ⟨c, 0, none⟩)] w fun e w' => ListPost bs c σ w e w' := by
  obtain ⟨i0, hi, hz0, hz1, hz2⟩ := info_parts info47'
  have hlt := h.lt
  have hne : w.heap.size ≠ c := by omega
  have HBD : Hid (∀ j, j < bs.length → 0 ≤ bs.getD j 0 ∧ bs.getD j 0 < 256) := h.bd
  have H0 := h.at0
  have B := pickF_bd bs 12 σ h.bd h.at0 (by omega)
  obtain ⟨⟨r, τ⟩, hr⟩ : ∃ p, pickF bs 12 σ = p := ⟨_, rfl⟩
  have HP : Hid (pickF bs 12 σ = (r, τ)) := hr
  obtain ⟨M, hM⟩ : ∃ m, cntF bs σ = m := ⟨_, rfl⟩
  have HM : Hid ((if r = 11 then 60 else r.toNat) = M) := (by rw [← hM]; unfold cntF; rw [hr] : (if r = 11 then 60 else r.toNat) = M)
  obtain ⟨X, hX⟩ : ∃ p, drawListF bs σ = p := ⟨_, rfl⟩
  have HX : Hid (drawListF bs σ = X) := hX
  have HX0 : Hid (listF bs M [] τ = X) := (by rw [← hX]; unfold drawListF; rw [hr, hM] : listF bs M [] τ = X)
  rw [hr] at B
  obtain ⟨r0, r1, r2, r3⟩ := B
  simp only at r0 r1 r2 r3
  have hM60 : M ≤ 60 := by have := HM.out; split at this <;> omega
  have hMi : (r = 11 ∧ (M : Int) = 60) ∨ (r ≠ 11 ∧ (M : Int) = r) := by have := HM.out; split at this <;> omega
  clear hr hM hX
  go_enter Tryd.func67, Tryd.ntmps67
  go_wp2_with fail
  refine (pick_F c bs 12 σ _ (h.alloc _) (by omega) (by omega) (by omega)).mono ?_
  rw [HP.out]
  rintro e w1 ⟨rfl, hc1, hu1⟩
  have HL0 : Hid (LR bs c (σ.at' + 2) w w1 (.slice (some ⟨w.heap.size, 0, none⟩) 0 0) M 0 [] τ X) := ⟨rfl, own_upd (World.ownsRow_made w #[] 0 (Nat.le_refl _) (by unfold maxLen; omega) (by simp)) hu1 hlt, hc1, (upd_alloc c w _).trans hu1, by rw [Nat.sub_zero]; exact HX0.out, fun _ h => (by cases h), by omega, by omega⟩
  clear hc1 hu1 h
  have hup : ∀ (P : Prop), P → P := fun _ h => h
  go_upto_if 11 with fail
  go_cut [4] (fun v4 wx => v4 = .int .i64 (M : Int) ∧ wx = w1)
  case first =>
    rcases hMi with ⟨e1, e2⟩ | ⟨e1, e2⟩
    · subst e1
      go_wp2_with fail
      go_meet
      exact ⟨by rw [e2], rfl⟩
    · have x1 : (r == 11) = false := by simpa using e1
      go_wp2_with fail
      go_meet
      exact ⟨by rw [e2], rfl⟩
  case rest =>
    obtain ⟨rfl, rfl⟩ := hcut
    go_wp2
    go_loopw [3, 5] (fun v vi wr => ∃ (i : Nat) (acc : List Tk) (υ : St), vi = .int .i64 i ∧ i ≤ M ∧ Hid (LR bs c (σ.at' + 2) w wr v M i acc υ X)) (fun _ vi _ => M - (intOf vi).toNat)
    case atStart => exact ⟨0, [], τ, rfl, by omega, HL0⟩
    case round =>
      obtain ⟨i, acc, υ, rfl, hiM, HRI⟩ := hrel
      have hzr : w.heap.size ≤ wr.heap.size := HRI.out.upd.size
      by_cases hlti : i < M
      · have hlti' : (i : Int) < M := by omega
        have hv0 := HRI.out.at0
        have hvA := HRI.out.atA
        obtain ⟨⟨⟨k, x⟩, ρ⟩, hk⟩ : ∃ p, tokF bs υ = p := ⟨_, rfl⟩
        have HK : Hid (tokF bs υ = ((k, x), ρ)) := hk
        obtain ⟨⟨p, υ'⟩, hp⟩ : ∃ q, pickF bs 50 ρ = q := ⟨_, rfl⟩
        have HQ : Hid (pickF bs 50 ρ = (p, υ')) := hp
        have HF : Hid (listF bs (M - (i + 1)) (acc ++ [(k, x, p)]) υ' = X) := (by
          have := HRI.out.fin
          rw [show M - i = (M - (i + 1)) + 1 by omega] at this
          unfold listF at this
          rw [hk] at this
          simp only [] at this
          rw [hp] at this
          exact this : listF bs (M - (i + 1)) (acc ++ [(k, x, p)]) υ' = X)
        clear hk hp
        go_wp2_with fail
        refine (tok_F c bs υ wr HRI.out.isf (by omega)).mono ?_
        unfold TokPost
        rw [HK.out]
        rintro e w2 ⟨rfl, hc2, hu2, hs2, ha2, hb2⟩
        have HSZ : Hid (x.size ≤ 48) := hs2
        have HU2 : Hid (Dr.Upd c wr w2) := hu2
        have HC2 : Hid (IsF w2 c bs ρ) := hc2
        have hz2r : wr.heap.size ≤ w2.heap.size := hu2.size
        have hne2 : w2.heap.size ≠ c := by omega
        have B2 := pickF_bd bs 50 ρ HBD.out ha2 (by omega)
        rw [HQ.out] at B2
        obtain ⟨p0, p1, p2, p3⟩ := B2
        simp only at p0 p1 p2 p3 ha2 hb2
        clear hu2 hc2 hs2
        go_wp2_with fail
        refine (pick_F c bs 50 ρ _ (HC2.out.below (B := w2.heap.size) (by (go_light; repeat (first | with_reducible exact Below.refl _ _ | (with_reducible refine Below.setCell ?_ ?_ _; rotate_left; (focus first | (simp; done) | (simp; omega) | omega)) | (with_reducible refine Below.alloc ?_ ?_ _; rotate_left; (focus first | (simp; done) | (simp; omega) | omega)) | with_reducible refine Below.drew ?_))) HC2.out.lt) (by omega) (by omega) (by omega)).mono ?_
        rw [HQ.out]
        rintro e w3 ⟨rfl, hc3, hu3⟩
        have hv3 : HT w3 w2.heap.size k x 0 := HT.upd ⟨by simp [go_sem], by simp [go_sem], by simp [go_sem], by simp [go_sem], by simp [go_sem], by simp [go_sem], by simp⟩ hu3 hne2
        have HW3 : Hid (Dr.Upd c w2 w3) := Dr.Upd.trans (Dr.Upd.of_below (by (go_light; repeat (first | with_reducible exact Below.refl _ _ | (with_reducible refine Below.setCell ?_ ?_ _; rotate_left; (focus first | (simp; done) | (simp; omega) | omega)) | (with_reducible refine Below.alloc ?_ ?_ _; rotate_left; (focus first | (simp; done) | (simp; omega) | omega)) | with_reducible refine Below.drew ?_)))) hu3
        have HU3 : Hid (Dr.Upd c w w3) := (HRI.out.upd.trans HU2.out).trans HW3.out
        have ho2 := own_upd HRI.out.own HU2.out hlt
        have hnb := fun g hg => (ho2.lt g hg).2
        have ho3 := own_upd ho2 HW3.out hlt
        have hz3 : w2.heap.size ≤ w3.heap.size := HW3.out.size
        have ho4 := own_set (p := ⟨w2.heap.size, 2, none⟩) ho3 (fun g hg => Nat.ne_of_lt (hnb g hg)) (.int .i64 p)
        have HC5 : Hid (IsF (w3.setCell ⟨w2.heap.size, 2, none⟩ (.int .i64 p)) c bs υ') := hc3.below (B := w2.heap.size) ((Below.refl w2.heap.size w3).setCell (p := ⟨w2.heap.size, 2, none⟩) (Nat.le_refl _) _) (by omega)
        have HU5 : Hid (Dr.Upd c w (w3.setCell ⟨w2.heap.size, 2, none⟩ (.int .i64 p))) := HU3.out.thenB (B := w2.heap.size) ((Below.refl w2.heap.size w3).setCell (p := ⟨w2.heap.size, 2, none⟩) (Nat.le_refl _) _) (by omega)
        obtain ⟨a0, a1, a2, b0, b1, b2, hz5⟩ := hv3
        clear ho2 ho3 hc3 hu3 HU3 HW3
        go_wp2_with (at_builtin; refine wpList_append_own _ rfl (.tmp 22) (.tmp 24) 33 rfl w.heap.size 47 i0 (.agg #[.int .i64 0, .string ⟨#[]⟩, .int .i64 0]) 3 32 Tryd.underlying33 hi hz0 hz1 hz2 rfl (by decide) _ _ _ rfl (ho4.alloc _) ⟨w3.heap.size, 0, none⟩ 1 1 [.int .i64 k, .string x, .int .i64 p] rfl rfl (three_at _ _ (by simp) _ _ _ _) (by intro u hu; simp at hu; rcases hu with rfl | rfl | rfl <;> rfl) (by unfold maxLen; omega) (by omega) (by simp; omega) ?_; intro v' w6 hown' hgrow _)
        obtain ⟨g1, g2⟩ := grown_all (m := 0) (ys := []) (v' := .bool true) ho4 HC5.out hlt HU5.out _ hgrow
        have HR6 : Hid (LR bs c (σ.at' + 2) w w6 v' M (i + 1) (acc ++ [(k, x, p)]) υ' X) := ⟨by simp [HRI.out.len], by rw [tkc_snoc]; exact hown', g1, g2, HF.out, (fun t ht => by
          rcases List.mem_append.1 ht with ht | ht
          · exact HRI.out.sz t ht
          · simp at ht; subst ht; exact HSZ.out), by omega, by omega⟩
        clear hown' hgrow g1 g2
        go_roundw
        case rel => exact ⟨i + 1, acc ++ [(k, x, p)], υ', by go_num, by omega, HR6⟩
        case measure => simp [intOf]; omega
      · have hlti' : ¬ (i : Int) < M := by omega
        obtain rfl : i = M := by omega
        have hE : (acc, υ) = X := by have := HRI.out.fin; rw [Nat.sub_self] at this; unfold listF at this; exact this
        have HE : Hid ((acc, υ) = X) := hE
        clear hE
        go_wp2
        go_ret
        have hL := HRI.out
        refine ⟨_, rfl, ?_⟩
        rw [HX.out, ← HE.out]
        exact ⟨by rw [hL.len]; exact hL.own, hL.isf, hL.upd, hL.sz, by rw [hL.len]; exact hM60, hL.at0, by have := hL.atA; show υ.at' ≤ _; omega⟩
end Go.Proofs.YtcgnkcehjcednaaDoor.Df
namespace Go.Proofs.YtcgnkcehjcednaaDoor.Df
open Go.ChangeShapes Go.WideShapes Go.ChangeAt Go.RowKit
set_option linter.unusedVariables false
set_option linter.unusedSimpArgs false
set_option maxRecDepth 100000
theorem info5 : (Tryd.prog.info? 5).map (fun i => (i.zero, i.size, i.bytes)) = some (some (.int .u8 0), 1, 1) := by kernel_rfl
theorem strOf_size (ns : List Int) : (strOfNums ns).size = ns.length := by simp [strOfNums, ByteArray.size]
theorem strCells_map (s : ByteArray) : Lib.strCells s = (s.data.toList.map (fun b => (b.toNat : Int))).map (Value.int .u8) := by
  simp [Lib.strCells]
/-- So many x. -/
def exes (n : Nat) : ByteArray := strOfNums (List.replicate n 120)
theorem exes_size (n : Nat) : (exes n).size = n := by unfold exes; rw [strOf_size]; simp
set_option maxHeartbeats 4000000 in
theorem times_F (n : Nat) (w : World) (h1 : 1 ≤ n) (h2 : n ≤ 300) : Calls Tryd.prog 69 #[.string ⟨#[120]⟩, .int .i64 n] w fun e w' => e = .returned (.string (exes n)) ∧ Below w.heap.size w w' := by
  obtain ⟨i0, hi, hz0, hz1, hz2⟩ := info_parts info5
  obtain ⟨X, hX⟩ : ∃ x, exes n = x := ⟨_, rfl⟩
  have HX : Hid (exes n = X) := hX
  rw [hX]
  clear hX
  go_enter Tryd.func69, Tryd.ntmps69
  go_wp2
  go_loopw [5, 6] (fun v i wr => ∃ j : Nat, j ≤ n ∧ i = .int .i64 j ∧ wr.ownsRow w.heap.size 5 1 v j ((List.replicate j (120 : Int)).map (Value.int .u8)) ∧ Below w.heap.size w wr) (fun _ i _ => n - (intOf i).toNat)
  case atStart => exact ⟨0, by omega, rfl, World.ownsRow_made w #[] 0 (Nat.le_refl _) (by unfold maxLen; omega) (by simp), (Below.refl _ _).alloc (Nat.le_refl _) _⟩
  case round =>
    obtain ⟨j, hj, rfl, hown, hbel⟩ := hrel
    by_cases hlt : j < n
    · have hlt' : (j : Int) < n := by omega
      go_wp2_with (at_builtin; refine Lib.wpList_append_own_string _ rfl (.tmp 13) (.tmp 14) 44 9 rfl w.heap.size 5 i0 Tryd.underlying44 Tryd.underlying9 hi hz0 hz1 hz2 _ _ _ rfl hown ⟨#[120]⟩ rfl (by show _ + 1 ≤ _; unfold maxLen; omega) (by show _ + 1 ≤ _; omega) hbel.size ?_; intro v' w1 hown' hgrow _)
      have HB1 : Hid (Below w.heap.size w w1) := hbel.grown hgrow hbel.size (fun k hk => (hown.lt k hk).1)
      have hO : w1.ownsRow w.heap.size 5 1 v' (j + 1) ((List.replicate (j + 1) (120 : Int)).map (Value.int .u8)) := by
        rw [strCells_map, show ({ data := #[120] } : ByteArray).size = 1 from rfl] at hown'
        rw [List.replicate_succ']
        simpa using hown'
      have HO : Hid (w1.ownsRow w.heap.size 5 1 v' (j + 1) ((List.replicate (j + 1) (120 : Int)).map (Value.int .u8))) := hO
      clear hO
      clear hown' hgrow hown hbel
      go_wp2
      go_roundw
      case rel => exact ⟨j + 1, by omega, by go_num, HO.out, HB1.out⟩
      case measure => simp [intOf]; omega
    · have hlt' : ¬ (j : Int) < n := by omega
      obtain rfl : j = n := by omega
      have hown0 := hown
      obtain ⟨hlen, hcase⟩ := hown0
      rcases hcase with ⟨_, h0⟩ | ⟨g, cap, cur, rfl, hg1, hg2, hg3, hg4, hg5, hg6⟩
      · omega
      have hcells : ∀ i, i < (List.replicate j (120 : Int)).length → wr.cell? ⟨g, 0 + i, none⟩ = some (.int .u8 ((List.replicate j (120 : Int)).getD i 0)) := fun i hi => by
        have hi' : i < j := by simpa using hi
        have := hown.cells (g := g) rfl i (.int .u8 ((List.replicate j (120 : Int)).getD i 0)) (by simp [List.getD, hi'])
        simp only [Addr.add] at this
        by_cases e : i = 0
        · subst e; simpa using this
        · simpa [e] using this
      have hlr : (List.replicate j (120 : Int)).length = j := by simp
      clear hown hg2 hg3 hg4 hg5 hg6 hlen
      have hcv := run_convert_bytes_arg (P := Tryd.prog) wr 44 5 Tryd.underlying44 Tryd.underlying5 g 0 j cap (List.replicate j (120 : Int)) hlr (by rw [hlr] at hcells; exact hcells) 9 Tryd.underlying9
      rw [show strOfNums (List.replicate j (120 : Int)) = X from HX.out] at hcv
      clear hcells hlr
      go_wp2
      go_ret
      exact ⟨rfl, hbel⟩
end Go.Proofs.YtcgnkcehjcednaaDoor.Df
namespace Go.Proofs.YtcgnkcehjcednaaDoor.Df
open Go.ChangeShapes Go.WideShapes Go.ChangeAt Go.RowKit
set_option linter.unusedVariables false
set_option linter.unusedSimpArgs false
set_option maxRecDepth 100000
def adds5 : List ByteArray := [⟨#[65]⟩, ⟨#[255]⟩, ⟨#[32]⟩, ⟨#[48]⟩, ⟨#[34]⟩]
def reps5 : List ByteArray := [⟨#[]⟩, ⟨#[48, 48, 55]⟩, ⟨#[33, 61]⟩, ⟨#[49, 46, 53, 48, 48, 48, 48]⟩, ⟨#[45, 49]⟩]
theorem adds5_size (i : Nat) : (adds5.getD i ByteArray.empty).size ≤ 48 := getD_all (P := fun t : ByteArray => t.size ≤ 48) (by decide) (by decide) i
theorem reps5_size (i : Nat) : (reps5.getD i ByteArray.empty).size ≤ 48 := getD_all (P := fun t : ByteArray => t.size ≤ 48) (by decide) (by decide) i
def tkD : Tk := (0, ByteArray.empty, 0)
/-- One of 0 .. n - 1, of one or more. -/
def pick1F (bs : List Int) (n : Nat) (σ : St) : Int × St := if n ≤ 1 then (0, σ) else pickF bs n σ
def spoilF (bs : List Int) (l : List Tk) (σ : St) : List Tk :=
  let i := (pick1F bs l.length σ).1.toNat
  let σ3 := (pick1F bs l.length σ).2
  let s := (pickF bs 3 σ3).1
  let σ4 := (pickF bs 3 σ3).2
  if s = 0 then l.set i ((pickF bs 9 σ4).1 - 1, (l.getD i tkD).2)
  else if s = 1 then l.set i ((l.getD i tkD).1, (l.getD i tkD).2.1 ++ adds5.getD (pickF bs 5 σ4).1.toNat ByteArray.empty, (l.getD i tkD).2.2)
  else l.set i ((l.getD i tkD).1, reps5.getD (pickF bs 5 σ4).1.toNat ByteArray.empty, (l.getD i tkD).2.2)
def fillF (bs : List Int) : Nat → List Tk → St → List Tk
  | 0, l, σ => l
  | f + 1, l, σ => if (l.length : Int) < 2000 + (pickF bs 2 σ).1 then fillF bs f (l ++ [(6, ⟨#[59]⟩, 0)]) (pickF bs 2 σ).2 else l
def fortyF (bs : List Int) : Nat → List Tk → St → List Tk
  | 0, l, σ => l
  | n + 1, l, σ => fortyF bs n (l ++ [(5, exes (190 + (pickF bs 20 σ).1).toNat, 0)]) (pickF bs 20 σ).2
def unlexG (bs : List Int) (mo : Int) (l : List Tk) (σ : St) : List Tk :=
  if mo = 1 then (if l.length = 0 then l else spoilF bs l σ)
  else if mo = 2 then (if (pickF bs 2 σ).1 = 0 then fillF bs 2002 l (pickF bs 2 σ).2 else fortyF bs 40 l (pickF bs 2 σ).2)
  else l
/-- The drawn list. -/
def unlexF (bs : List Int) : List Tk := unlexG bs (modeF bs ⟨0, 0⟩).1 (drawListF bs (modeF bs ⟨0, 0⟩).2).1 (drawListF bs (modeF bs ⟨0, 0⟩).2).2
theorem mode_at (bs : List Int) (σ : St) (hb : ∀ j, j < bs.length → 0 ≤ bs.getD j 0 ∧ bs.getD j 0 < 256) (h0 : 0 ≤ σ.at') : 0 ≤ (modeF bs σ).2.at' ∧ (modeF bs σ).2.at' ≤ σ.at' + 2 := by
  have := pickF_bd bs 10 σ hb h0 (by omega)
  exact ⟨by show 0 ≤ (pickF bs 10 σ).2.at'; omega, this.2.2.2⟩
theorem cur_newF (w : World) (v0 : Option Addr) (bs : List Int) (cap c : Nat) (hc : c = w.heap.size) (hl : bs.length ≤ 1048576) (hb : ∀ j, j < bs.length → ∃ g o, v0 = some ⟨g, o, none⟩ ∧ g < w.heap.size ∧ w.cell? ⟨g, o + j, none⟩ = some (.int .u8 (bs.getD j 0)) ∧ 0 ≤ bs.getD j 0 ∧ bs.getD j 0 < 256) :
    IsF (w.alloc (.cells #[.slice v0 bs.length cap, .int .i64 0, .int .i64 0, .int .i64 0] 90)) c bs ⟨0, 0⟩ := by
  subst hc
  refine ⟨v0, cap, ⟨by simp [go_sem], by simp [go_sem], by simp [go_sem], by simp [go_sem], by simp [go_sem], Int.le_refl _, by show (0 : Int) ≤ _; omega, Int.le_refl _, by show (0 : Int) < _; omega, hl, by simp, fun j hj => ?_⟩⟩
  obtain ⟨g, o, e1, e2, e3, e4, e5⟩ := hb j hj
  exact ⟨g, o, e1, e2, ((below_alloc w _).cell (p := ⟨g, o + j, none⟩) e2).trans e3, e4, e5⟩
theorem getD_mem {l : List Tk} {i : Nat} (h : i < l.length) : l.getD i tkD ∈ l := by
  rw [List.getD_eq_getElem?_getD, List.getElem?_eq_getElem h]; exact List.getElem_mem h
theorem str_at (l : List ByteArray) (bs : List Int) (σ : St) (hb : ∀ j, j < bs.length → 0 ≤ bs.getD j 0 ∧ bs.getD j 0 < 256) (h0 : 0 ≤ σ.at') (hn : 2 ≤ l.length) : 0 ≤ (strF l bs σ).2.at' ∧ (strF l bs σ).2.at' ≤ σ.at' + 2 := by
  have := pickF_bd bs l.length σ hb h0 (by omega)
  exact ⟨by show 0 ≤ (pickF bs l.length σ).2.at'; omega, this.2.2.2⟩
theorem text_at (bs : List Int) (hb : ∀ j, j < bs.length → 0 ≤ bs.getD j 0 ∧ bs.getD j 0 < 256) : ∀ (n : Nat) (o : ByteArray) (σ : St), 0 ≤ σ.at' → 0 ≤ (textF bs n o σ).2.at' ∧ (textF bs n o σ).2.at' ≤ σ.at' + 2 * (n : Int)
  | 0, o, σ, h0 => ⟨h0, by show σ.at' ≤ _; omega⟩
  | n + 1, o, σ, h0 => by
    have h1 := str_at bits18 bs σ hb h0 (by decide)
    have h2 := text_at bs hb n (o ++ (strF bits18 bs σ).1) (strF bits18 bs σ).2 h1.1
    exact ⟨h2.1, by have := h2.2; show (textF bs n _ _).2.at' ≤ _; omega⟩
theorem tok_at (bs : List Int) (hb : ∀ j, j < bs.length → 0 ≤ bs.getD j 0 ∧ bs.getD j 0 < 256) (σ : St) (h0 : 0 ≤ σ.at') : 0 ≤ (tokF bs σ).2.at' ∧ (tokF bs σ).2.at' ≤ σ.at' + 30 := by
  have h1 := pickF_bd bs 8 σ hb h0 (by omega)
  have k0 : 0 ≤ (pickF bs 8 σ).2.at' := by omega
  have a := str_at words11 bs _ hb k0 (by decide)
  have b := str_at names14 bs _ hb k0 (by decide)
  have c := str_at ints5 bs _ hb k0 (by decide)
  have d := str_at decs5 bs _ hb k0 (by decide)
  have e := str_at signs17 bs _ hb k0 (by decide)
  have p := pickF_bd bs 5 (pickF bs 8 σ).2 hb k0 (by omega)
  have f := text_at bs hb (pickF bs 5 (pickF bs 8 σ).2).1.toNat ByteArray.empty (pickF bs 5 (pickF bs 8 σ).2).2 (by omega)
  have f' : 0 ≤ (drawTextF bs (pickF bs 8 σ).2).2.at' ∧ (drawTextF bs (pickF bs 8 σ).2).2.at' ≤ (pickF bs 8 σ).2.at' + 20 := ⟨f.1, by have := f.2; show (textF bs _ _ _).2.at' ≤ _; omega⟩
  unfold tokF
  simp only []
  split
  · exact ⟨a.1, by show (strF words11 bs _).2.at' ≤ _; omega⟩
  split
  · exact ⟨b.1, by show (strF names14 bs _).2.at' ≤ _; omega⟩
  split
  · exact ⟨c.1, by show (strF ints5 bs _).2.at' ≤ _; omega⟩
  split
  · exact ⟨d.1, by show (strF decs5 bs _).2.at' ≤ _; omega⟩
  split
  · exact ⟨f'.1, by show (drawTextF bs _).2.at' ≤ _; omega⟩
  · exact ⟨e.1, by show (strF signs17 bs _).2.at' ≤ _; omega⟩
theorem listF_at (bs : List Int) (hb : ∀ j, j < bs.length → 0 ≤ bs.getD j 0 ∧ bs.getD j 0 < 256) : ∀ (n : Nat) (acc : List Tk) (σ : St), 0 ≤ σ.at' → 0 ≤ (listF bs n acc σ).2.at' ∧ (listF bs n acc σ).2.at' ≤ σ.at' + 32 * (n : Int) ∧ (listF bs n acc σ).1.length = acc.length + n
  | 0, acc, σ, h0 => ⟨h0, by show σ.at' ≤ _; omega, rfl⟩
  | n + 1, acc, σ, h0 => by
    have h1 := tok_at bs hb σ h0
    have h2 := pickF_bd bs 50 (tokF bs σ).2 hb h1.1 (by omega)
    have h3 := listF_at bs hb n (acc ++ [((tokF bs σ).1.1, (tokF bs σ).1.2, (pickF bs 50 (tokF bs σ).2).1)]) (pickF bs 50 (tokF bs σ).2).2 (by omega)
    refine ⟨h3.1, by have := h3.2.1; show (listF bs n _ _).2.at' ≤ _; omega, ?_⟩
    have := h3.2.2
    rw [List.length_append] at this
    show (listF bs n _ _).1.length = _
    rw [this]; simp; omega
theorem list_at (bs : List Int) (σ : St) (hb : ∀ j, j < bs.length → 0 ≤ bs.getD j 0 ∧ bs.getD j 0 < 256) (h0 : 0 ≤ σ.at') (hA : σ.at' < 100000) : 0 ≤ (drawListF bs σ).2.at' ∧ (drawListF bs σ).2.at' ≤ σ.at' + 2000 ∧ (drawListF bs σ).1.length ≤ 60 := by
  have h1 := pickF_bd bs 12 σ hb h0 (by omega)
  have hc : cntF bs σ ≤ 60 := by unfold cntF; split <;> omega
  have h2 := listF_at bs hb (cntF bs σ) [] (pickF bs 12 σ).2 (by omega)
  exact ⟨h2.1, by have := h2.2.1; show (listF bs _ _ _).2.at' ≤ _; omega, by have := h2.2.2; show (listF bs _ _ _).1.length ≤ _; rw [this]; simpa using hc⟩
theorem tkc_len (l : List Tk) : (tkc l).length = l.length * 3 := by
  induction l with
  | nil => rfl
  | cons x l ih => simp [tkc] at ih ⊢; omega
theorem tkc_get : ∀ (l : List Tk) (j : Nat) (h : j < l.length), (tkc l)[j * 3]? = some (.int .i64 (l.getD j tkD).1) ∧ (tkc l)[j * 3 + 1]? = some (.string (l.getD j tkD).2.1) ∧ (tkc l)[j * 3 + 2]? = some (.int .i64 (l.getD j tkD).2.2)
  | x :: l, 0, _ => by simp [tkc]
  | x :: l, j + 1, h => by
    have ih := tkc_get l j (by simpa using h)
    have e : tkc (x :: l) = .int .i64 x.1 :: .string x.2.1 :: .int .i64 x.2.2 :: tkc l := by simp [tkc]
    rw [e, show (j + 1) * 3 = j * 3 + 3 by omega]
    simpa using ih
theorem tkc_set0 : ∀ (l : List Tk) (j : Nat) (k : Int), j < l.length → (tkc l).set (j * 3) (.int .i64 k) = tkc (l.set j (k, (l.getD j tkD).2))
  | x :: l, 0, k, _ => by simp [tkc]
  | x :: l, j + 1, k, h => by
    have ih := tkc_set0 l j k (by simpa using h)
    have e : ∀ (x : Tk) l, tkc (x :: l) = .int .i64 x.1 :: .string x.2.1 :: .int .i64 x.2.2 :: tkc l := fun x l => by simp [tkc]
    rw [show (j + 1) * 3 = j * 3 + 3 by omega, List.set_cons_succ, e, e]
    simpa using ih
theorem tkc_set1 : ∀ (l : List Tk) (j : Nat) (s : ByteArray), j < l.length → (tkc l).set (j * 3 + 1) (.string s) = tkc (l.set j ((l.getD j tkD).1, s, (l.getD j tkD).2.2))
  | x :: l, 0, s, _ => by simp [tkc]
  | x :: l, j + 1, s, h => by
    have ih := tkc_set1 l j s (by simpa using h)
    have e : ∀ (x : Tk) l, tkc (x :: l) = .int .i64 x.1 :: .string x.2.1 :: .int .i64 x.2.2 :: tkc l := fun x l => by simp [tkc]
    rw [show (j + 1) * 3 + 1 = j * 3 + 1 + 3 by omega, List.set_cons_succ, e, e]
    simpa using ih
/-- What DrawUnlex leaves. -/
def UPost (bs : List Int) (w : World) (e : Ending) (w' : World) : Prop :=
  ∃ v, e = .returned v ∧ w'.ownsRow w.heap.size 47 3 v (unlexF bs).length (tkc (unlexF bs)) ∧ Below w.heap.size w w' ∧ (∀ t ∈ unlexF bs, t.2.1.size ≤ 300) ∧ (unlexF bs).length ≤ 4000
theorem own_mono {w : World} {a b e s n : Nat} {v : Value} {xs : List Value} (h : w.ownsRow b e s v n xs) (hab : a ≤ b) : w.ownsRow a e s v n xs := by
  obtain ⟨h1, h2⟩ := h
  refine ⟨h1, ?_⟩
  rcases h2 with a | ⟨g, cap, cur, e1, e2, e3, e4⟩
  · exact .inl a
  · exact .inr ⟨g, cap, cur, e1, by omega, e3, e4⟩
theorem uPost_mk {bs : List Int} {w w' : World} {v : Value} {L : List Tk} {B : Nat} (hu : unlexF bs = L) (ho : w'.ownsRow B 47 3 v L.length (tkc L)) (hB : w.heap.size ≤ B) (hb : Below w.heap.size w w') (hs : ∀ t ∈ L, t.2.1.size ≤ 300) (hn : L.length ≤ 4000) : UPost bs w (.returned v) w' := by
  unfold UPost
  rw [hu]
  exact ⟨v, rfl, own_mono ho hB, hb, hs, hn⟩
theorem set_sizes {l : List Tk} {i : Nat} {x : Tk} (h : ∀ t ∈ l, t.2.1.size ≤ 48) (hx : x.2.1.size ≤ 300) : ∀ t ∈ l.set i x, t.2.1.size ≤ 300 := fun t ht => by
  rcases List.mem_or_eq_of_mem_set ht with h1 | h1
  · exact Nat.le_trans (h t h1) (by decide)
  · subst h1; exact hx
theorem row_slice {w : World} {base e size n : Nat} {v : Value} {xs : List Value} (h : w.ownsRow base e size v n xs) : ∃ a cap, v = .slice a n cap := by
  rcases h.2 with ⟨rfl, rfl⟩ | ⟨g, cap, cur, rfl, _⟩
  · exact ⟨_, _, rfl⟩
  · exact ⟨_, _, rfl⟩
set_option maxHeartbeats 16000000 in
theorem unlex_plain (v0 : Option Addr) (bs : List Int) (cap c : Nat) (w : World) (hc : c = w.heap.size) (hl : bs.length ≤ 1048576) (hb : ∀ j, j < bs.length → ∃ g o, v0 = some ⟨g, o, none⟩ ∧ g < w.heap.size ∧ w.cell? ⟨g, o + j, none⟩ = some (.int .u8 (bs.getD j 0)) ∧ 0 ≤ bs.getD j 0 ∧ bs.getD j 0 < 256) (hm : (modeF bs ⟨0, 0⟩).1 ≠ 1) (hm2 : (modeF bs ⟨0, 0⟩).1 ≠ 2) :
    Calls Tryd.prog 29 #[.slice v0 bs.length cap] w fun e w' => UPost bs w e w' := by
  have hc0 : IsF (w.alloc (.cells #[.slice v0 bs.length cap, .int .i64 0, .int .i64 0, .int .i64 0] 90)) c bs ⟨0, 0⟩ := cur_newF w v0 bs cap c hc hl hb
  obtain ⟨⟨mo, σ1⟩, hmo⟩ : ∃ p, modeF bs ⟨0, 0⟩ = p := ⟨_, rfl⟩
  have HMo : Hid (modeF bs ⟨0, 0⟩ = (mo, σ1)) := hmo
  obtain ⟨⟨l, σ2⟩, hli⟩ : ∃ p, drawListF bs σ1 = p := ⟨_, rfl⟩
  have HLi : Hid (drawListF bs σ1 = (l, σ2)) := hli
  have hat := mode_at bs ⟨0, 0⟩ hc0.bd hc0.at0
  rw [hmo] at hat
  obtain ⟨t0, t1⟩ := hat
  simp only at t0 t1
  have HBD : Hid (∀ j, j < bs.length → 0 ≤ bs.getD j 0 ∧ bs.getD j 0 < 256) := hc0.bd
  have HUF : Hid (unlexF bs = unlexG bs mo l σ2) := (by unfold unlexF; rw [hmo]; simp only []; rw [hli] : unlexF bs = unlexG bs mo l σ2)
  rw [hmo] at hm hm2
  simp only at hm hm2
  have x1 : (mo == 1) = false := by simpa using hm
  have x2 : (mo == 2) = false := by simpa using hm2
  have HG : Hid (unlexF bs = l) := (by rw [HUF.out]; unfold unlexG; rw [if_neg hm, if_neg hm2] : unlexF bs = l)
  subst hc
  clear hmo hli hm hm2 hb HUF
  generalize hC : w.heap.size = c at *
  have hlt0 : c < (w.alloc (.cells #[.slice v0 bs.length cap, .int .i64 0, .int .i64 0, .int .i64 0] 90)).heap.size := by simp; omega
  go_enter Tryd.func29, Tryd.ntmps29
  go_wp2_with fail
  refine (mode_F c bs ⟨0, 0⟩ _ hc0 (by show (0 : Int) < _; omega)).mono ?_
  rw [HMo.out]
  rintro e w1 ⟨rfl, hc1, hu1⟩
  have HW1 : Hid (Below w.heap.size w w1) := Dr.Upd.below (below_alloc w _) hu1 (by omega)
  have hlt1 := hc1.lt
  have hz1 : w.heap.size ≤ w1.heap.size := HW1.out.size
  clear hu1 hc0
  go_wp2_with fail
  refine (list_F c bs σ1 _ hc1 (by omega)).mono ?_
  unfold ListPost
  rw [HLi.out]
  rintro e w2 ⟨v2, rfl, ho2, hc2, hu2, hs2, hl2, ha2, hb2⟩
  simp only at ho2 hc2 hs2 hl2 ha2 hb2
  have HW2 : Hid (Below w.heap.size w w2) := Dr.Upd.below HW1.out hu2 (by omega)
  have hz2 : w1.heap.size ≤ w2.heap.size := hu2.size
  have HS2 : Hid (∀ t ∈ l, t.2.1.size ≤ 48) := hs2
  clear hs2
  obtain ⟨a2, cap2, rfl⟩ := row_slice ho2
  go_wp2
  go_ret
  refine uPost_mk HG.out ho2 (by omega) ?_ (fun t ht => Nat.le_trans (HS2.out t ht) (by decide)) (by omega)
  exact HW2.out
end Go.Proofs.YtcgnkcehjcednaaDoor.Df
namespace Go.Proofs.YtcgnkcehjcednaaDoor.Df
open Go.ChangeShapes Go.WideShapes Go.ChangeAt Go.RowKit
set_option linter.unusedVariables false
set_option linter.unusedSimpArgs false
set_option maxRecDepth 100000
theorem pick1F_bd (bs : List Int) (n : Nat) (σ : St) (hb : ∀ j, j < bs.length → 0 ≤ bs.getD j 0 ∧ bs.getD j 0 < 256) (h0 : 0 ≤ σ.at') (hn : 0 < n) : 0 ≤ (pick1F bs n σ).1 ∧ (pick1F bs n σ).1 < n ∧ 0 ≤ (pick1F bs n σ).2.at' ∧ (pick1F bs n σ).2.at' ≤ σ.at' + 2 := by
  unfold pick1F
  split
  · exact ⟨Int.le_refl _, by show (0 : Int) < n; omega, h0, by show σ.at' ≤ σ.at' + 2; omega⟩
  · have := pickF_bd bs n σ hb h0 (by omega)
    exact ⟨this.1, this.2.1, by omega, this.2.2.2⟩
theorem pick1_F (c : Nat) (bs : List Int) (n : Nat) (σ : St) (w : World) (h : IsF w c bs σ) (hA : σ.at' < 100000000) (h1 : 0 < n) (h2 : n ≤ 65536) : Calls Tryd.prog 68 #[.pointer (some ⟨c, 0, none⟩), .int .i64 (n : Int)] w fun e w' => e = .returned (.int .i64 (pick1F bs n σ).1) ∧ IsF w' c bs (pick1F bs n σ).2 ∧ Dr.Upd c w w' := by
  unfold pick1F
  by_cases e : n ≤ 1
  · rw [if_pos e]
    obtain rfl : n = 1 := by omega
    go_enter Tryd.func68, Tryd.ntmps68
    go_wp2
    go_ret
    exact ⟨rfl, h, Dr.Upd.refl _ _⟩
  · rw [if_neg e]
    exact pick_F c bs n σ w h hA (by omega) (by omega)
theorem row_some {w : World} {base e size n : Nat} {v : Value} {xs : List Value} (h : w.ownsRow base e size v n xs) (hn : 0 < n) : ∃ g cap, v = .slice (some ⟨g, 0, none⟩) n cap ∧ base ≤ g := by
  rcases h.2 with ⟨rfl, rfl⟩ | ⟨g, cap, cur, rfl, hb, _⟩
  · omega
  · exact ⟨g, cap, rfl, hb⟩
set_option maxHeartbeats 16000000 in
theorem unlex_empty (v0 : Option Addr) (bs : List Int) (cap c : Nat) (w : World) (hc : c = w.heap.size) (hl : bs.length ≤ 1048576) (hb : ∀ j, j < bs.length → ∃ g o, v0 = some ⟨g, o, none⟩ ∧ g < w.heap.size ∧ w.cell? ⟨g, o + j, none⟩ = some (.int .u8 (bs.getD j 0)) ∧ 0 ≤ bs.getD j 0 ∧ bs.getD j 0 < 256) (hm : (modeF bs ⟨0, 0⟩).1 = 1) (hz : (drawListF bs (modeF bs ⟨0, 0⟩).2).1.length = 0) :
    Calls Tryd.prog 29 #[.slice v0 bs.length cap] w fun e w' => UPost bs w e w' := by
  have hc0 : IsF (w.alloc (.cells #[.slice v0 bs.length cap, .int .i64 0, .int .i64 0, .int .i64 0] 90)) c bs ⟨0, 0⟩ := cur_newF w v0 bs cap c hc hl hb
  obtain ⟨⟨mo, σ1⟩, hmo⟩ : ∃ p, modeF bs ⟨0, 0⟩ = p := ⟨_, rfl⟩
  have HMo : Hid (modeF bs ⟨0, 0⟩ = (mo, σ1)) := hmo
  obtain ⟨⟨l, σ2⟩, hli⟩ : ∃ p, drawListF bs σ1 = p := ⟨_, rfl⟩
  have HLi : Hid (drawListF bs σ1 = (l, σ2)) := hli
  have hat := mode_at bs ⟨0, 0⟩ hc0.bd hc0.at0
  rw [hmo] at hat
  obtain ⟨t0, t1⟩ := hat
  simp only at t0 t1
  have HBD : Hid (∀ j, j < bs.length → 0 ≤ bs.getD j 0 ∧ bs.getD j 0 < 256) := hc0.bd
  have HUF : Hid (unlexF bs = unlexG bs mo l σ2) := (by unfold unlexF; rw [hmo]; simp only []; rw [hli] : unlexF bs = unlexG bs mo l σ2)
  rw [hmo] at hm hz
  simp only at hm hz
  rw [hli] at hz
  simp only at hz
  subst hm
  have HG : Hid (unlexF bs = l) := (by rw [HUF.out]; unfold unlexG; rw [if_pos rfl, if_pos hz] : unlexF bs = l)
  have hzi : ¬ (0 : Int) < (l.length : Int) := by omega
  clear hz
  subst hc
  clear hmo hli hb HUF
  generalize hC : w.heap.size = c at *
  have hlt0 : c < (w.alloc (.cells #[.slice v0 bs.length cap, .int .i64 0, .int .i64 0, .int .i64 0] 90)).heap.size := by simp; omega
  go_enter Tryd.func29, Tryd.ntmps29
  go_wp2_with fail
  refine (mode_F c bs ⟨0, 0⟩ _ hc0 (by show (0 : Int) < _; omega)).mono ?_
  rw [HMo.out]
  rintro e w1 ⟨rfl, hc1, hu1⟩
  have HW1 : Hid (Below w.heap.size w w1) := Dr.Upd.below (below_alloc w _) hu1 (by omega)
  have hlt1 := hc1.lt
  have hz1 : w.heap.size ≤ w1.heap.size := HW1.out.size
  clear hu1 hc0
  go_wp2_with fail
  refine (list_F c bs σ1 _ hc1 (by omega)).mono ?_
  unfold ListPost
  rw [HLi.out]
  rintro e w2 ⟨v2, rfl, ho2, hc2, hu2, hs2, hl2, ha2, hb2⟩
  simp only at ho2 hc2 hs2 hl2 ha2 hb2
  have HW2 : Hid (Below w.heap.size w w2) := Dr.Upd.below HW1.out hu2 (by omega)
  have hz2 : w1.heap.size ≤ w2.heap.size := hu2.size
  have HS2 : Hid (∀ t ∈ l, t.2.1.size ≤ 48) := hs2
  clear hs2
  obtain ⟨a2, cap2, rfl⟩ := row_slice ho2
  go_wp2
  go_ret
  exact uPost_mk HG.out ho2 (by omega) HW2.out (fun t ht => Nat.le_trans (HS2.out t ht) (by decide)) (by omega)
set_option maxHeartbeats 16000000 in
theorem unlex_kind (v0 : Option Addr) (bs : List Int) (cap c : Nat) (w : World) (hc : c = w.heap.size) (hl : bs.length ≤ 1048576) (hb : ∀ j, j < bs.length → ∃ g o, v0 = some ⟨g, o, none⟩ ∧ g < w.heap.size ∧ w.cell? ⟨g, o + j, none⟩ = some (.int .u8 (bs.getD j 0)) ∧ 0 ≤ bs.getD j 0 ∧ bs.getD j 0 < 256) (hm : (modeF bs ⟨0, 0⟩).1 = 1) (hz : 0 < (drawListF bs (modeF bs ⟨0, 0⟩).2).1.length) (hs : (pickF bs 3 (pick1F bs (drawListF bs (modeF bs ⟨0, 0⟩).2).1.length (drawListF bs (modeF bs ⟨0, 0⟩).2).2).2).1 ≠ 1) :
    Calls Tryd.prog 29 #[.slice v0 bs.length cap] w fun e w' => UPost bs w e w' := by
  have hc0 : IsF (w.alloc (.cells #[.slice v0 bs.length cap, .int .i64 0, .int .i64 0, .int .i64 0] 90)) c bs ⟨0, 0⟩ := cur_newF w v0 bs cap c hc hl hb
  obtain ⟨⟨mo, σ1⟩, hmo⟩ : ∃ p, modeF bs ⟨0, 0⟩ = p := ⟨_, rfl⟩
  have HMo : Hid (modeF bs ⟨0, 0⟩ = (mo, σ1)) := hmo
  obtain ⟨⟨l, σ2⟩, hli⟩ : ∃ p, drawListF bs σ1 = p := ⟨_, rfl⟩
  have HLi : Hid (drawListF bs σ1 = (l, σ2)) := hli
  have hat := mode_at bs ⟨0, 0⟩ hc0.bd hc0.at0
  rw [hmo] at hat
  obtain ⟨t0, t1⟩ := hat
  simp only at t0 t1
  have HBD : Hid (∀ j, j < bs.length → 0 ≤ bs.getD j 0 ∧ bs.getD j 0 < 256) := hc0.bd
  have HUF : Hid (unlexF bs = unlexG bs mo l σ2) := (by unfold unlexF; rw [hmo]; simp only []; rw [hli] : unlexF bs = unlexG bs mo l σ2)
  rw [hmo] at hm hz hs
  simp only at hm hz hs
  rw [hli] at hz hs
  simp only at hz hs
  subst hm
  have hat2 := list_at bs σ1 HBD.out t0 (by omega)
  rw [hli] at hat2
  obtain ⟨u0, u1, u2⟩ := hat2
  simp only at u0 u1 u2
  have hpos : 0 < l.length := by omega
  have Bi := pick1F_bd bs l.length σ2 HBD.out (by omega) hpos
  obtain ⟨⟨iz, σ3⟩, hiz⟩ : ∃ p, pick1F bs l.length σ2 = p := ⟨_, rfl⟩
  have HI : Hid (pick1F bs l.length σ2 = (iz, σ3)) := hiz
  rw [hiz] at Bi
  obtain ⟨i0', i1', i2', i3'⟩ := Bi
  simp only at i0' i1' i2' i3'
  obtain ⟨i, rfl⟩ : ∃ m : Nat, iz = m := ⟨iz.toNat, by omega⟩
  have Bs := pickF_bd bs 3 σ3 HBD.out (by omega) (by omega)
  obtain ⟨⟨s, σ4⟩, hs4⟩ : ∃ p, pickF bs 3 σ3 = p := ⟨_, rfl⟩
  have HSp : Hid (pickF bs 3 σ3 = (s, σ4)) := hs4
  rw [hs4] at Bs
  obtain ⟨s0, s1, s2, s3⟩ := Bs
  simp only at s0 s1 s2 s3
  have hil : i < l.length := by omega
  have HG0 : Hid (unlexF bs = (if s = 0 then l.set i ((pickF bs 9 σ4).1 - 1, (l.getD i tkD).2) else if s = 1 then l.set i ((l.getD i tkD).1, (l.getD i tkD).2.1 ++ adds5.getD (pickF bs 5 σ4).1.toNat ByteArray.empty, (l.getD i tkD).2.2) else l.set i ((l.getD i tkD).1, reps5.getD (pickF bs 5 σ4).1.toNat ByteArray.empty, (l.getD i tkD).2.2))) := (by rw [HUF.out]; unfold unlexG; rw [if_pos rfl, if_neg (by omega)]; unfold spoilF; rw [hiz]; simp only []; rw [hs4]; simp : unlexF bs = _)
  clear hiz hs4
  rw [HI.out] at hs
  simp only at hs
  rw [HSp.out] at hs
  simp only at hs
  by_cases e0 : s = 0
  · subst e0
    have Bk := pickF_bd bs 9 σ4 HBD.out (by omega) (by omega)
    obtain ⟨⟨k, σ5⟩, hk⟩ : ∃ p, pickF bs 9 σ4 = p := ⟨_, rfl⟩
    have HKk : Hid (pickF bs 9 σ4 = (k, σ5)) := hk
    have HG : Hid (unlexF bs = l.set i (k - 1, (l.getD i tkD).2)) := (by rw [HG0.out, if_pos rfl, hk] : unlexF bs = l.set i (k - 1, (l.getD i tkD).2))
    rw [hk] at Bk
    obtain ⟨k0, k1, k2, k3⟩ := Bk
    simp only at k0 k1 k2 k3
    clear hk HG0
    subst hc
    clear hmo hli hb HUF
    generalize hC : w.heap.size = c at *
    have hlt0 : c < (w.alloc (.cells #[.slice v0 bs.length cap, .int .i64 0, .int .i64 0, .int .i64 0] 90)).heap.size := by simp; omega
    go_enter Tryd.func29, Tryd.ntmps29
    go_wp2_with fail
    refine (mode_F c bs ⟨0, 0⟩ _ hc0 (by show (0 : Int) < _; omega)).mono ?_
    rw [HMo.out]
    rintro e w1 ⟨rfl, hc1, hu1⟩
    have HW1 : Hid (Below w.heap.size w w1) := Dr.Upd.below (below_alloc w _) hu1 (by omega)
    have hlt1 := hc1.lt
    have hz1 : w.heap.size ≤ w1.heap.size := HW1.out.size
    clear hu1 hc0
    go_wp2_with fail
    refine (list_F c bs σ1 _ hc1 (by omega)).mono ?_
    unfold ListPost
    rw [HLi.out]
    rintro e w2 ⟨v2, rfl, ho2, hc2, hu2, hs2, hl2, ha2, hb2⟩
    simp only at ho2 hc2 hs2 hl2 ha2 hb2
    have HW2 : Hid (Below w.heap.size w w2) := Dr.Upd.below HW1.out hu2 (by omega)
    have hz2 : w1.heap.size ≤ w2.heap.size := hu2.size
    have HS2 : Hid (∀ t ∈ l, t.2.1.size ≤ 48) := hs2
    clear hs2
    obtain ⟨g, cap2, rfl, hg1⟩ := row_some ho2 hpos
    go_wp2_with fail
    refine (pick1_F c bs l.length σ2 _ hc2 (by omega) hpos (by omega)).mono ?_
    rw [HI.out]
    rintro e w3 ⟨rfl, hc3, hu3⟩
    have ho3 := own_upd ho2 hu3 hlt1
    have hU3 := hu2.trans hu3
    clear hu3 hc2 ho2
    go_wp2_with fail
    refine (pick_F c bs 3 σ3 _ hc3 (by omega) (by omega) (by omega)).mono ?_
    rw [HSp.out]
    rintro e w4 ⟨rfl, hc4, hu4⟩
    have ho4 := own_upd ho3 hu4 hlt1
    have hU4 := hU3.trans hu4
    have hz4 : w1.heap.size ≤ w4.heap.size := hU4.size
    clear hu4 hc3 ho3 hU3 hu2
    go_wp2_with fail
    refine (pick_F c bs 9 σ4 _ hc4 (by omega) (by omega) (by omega)).mono ?_
    rw [HKk.out]
    rintro e w5 ⟨rfl, hc5, hu5⟩
    have ho5 := own_upd ho4 hu5 hlt1
    have hU5 := hU4.trans hu5
    have HW5 : Hid (Below w.heap.size w w5) := Dr.Upd.below HW1.out hU5 (by omega)
    obtain ⟨y0, y1, y2⟩ := tkc_get l i hil
    have q0 := cell_at ho5 y0
    have f0 := ho5.frozenAt (i * 3)
    have ho6 := (ho5.stored (i * 3) (.int .i64 (k - 1))).1
    rw [tkc_set0 l i (k - 1) hil] at ho6
    have HO6 : Hid (World.ownsRow (w5.setCell ⟨g, i * 3, none⟩ (.int .i64 (k - 1))) w1.heap.size 47 3 (.slice (some ⟨g, 0, none⟩) l.length cap2) (l.set i (k - 1, (l.getD i tkD).2)).length (tkc (l.set i (k - 1, (l.getD i tkD).2)))) := (by rw [List.length_set]; exact ho6 : World.ownsRow _ _ _ _ _ _ _)
    have hsz : (l.getD i tkD).2.1.size ≤ 48 := HS2.out _ (getD_mem hil)
    have HSZ : Hid ((l.getD i tkD).2.1.size ≤ 48) := hsz
    clear ho4 ho5 ho6 hU4 hu5 hc4 hsz
    go_wp2
    go_ret
    exact uPost_mk HG.out HO6.out (by omega) (HW5.out.setCell (by show w.heap.size ≤ g; omega) _) (set_sizes HS2.out (Nat.le_trans HSZ.out (by decide))) (by simp; omega)
  · have x0 : (s == 0) = false := by simpa using e0
    obtain rfl : s = 2 := by omega
    have Bk := pickF_bd bs 5 σ4 HBD.out (by omega) (by omega)
    obtain ⟨⟨k, σ5⟩, hk⟩ : ∃ p, pickF bs 5 σ4 = p := ⟨_, rfl⟩
    have HKk : Hid (pickF bs 5 σ4 = (k, σ5)) := hk
    obtain ⟨x, hx⟩ : ∃ x, reps5.getD k.toNat ByteArray.empty = x := ⟨_, rfl⟩
    have HXx : Hid (reps5.getD k.toNat ByteArray.empty = x) := hx
    have HXS : Hid (x.size ≤ 48) := (by rw [← hx]; exact reps5_size _ : x.size ≤ 48)
    have HG : Hid (unlexF bs = l.set i ((l.getD i tkD).1, x, (l.getD i tkD).2.2)) := (by rw [HG0.out, if_neg (by omega), if_neg (by omega), hk]; simp only []; rw [hx] : unlexF bs = l.set i ((l.getD i tkD).1, x, (l.getD i tkD).2.2))
    rw [hk] at Bk
    obtain ⟨k0, k1, k2, k3⟩ := Bk
    simp only at k0 k1 k2 k3
    clear hk HG0 hx
    subst hc
    clear hmo hli hb HUF
    generalize hC : w.heap.size = c at *
    have hlt0 : c < (w.alloc (.cells #[.slice v0 bs.length cap, .int .i64 0, .int .i64 0, .int .i64 0] 90)).heap.size := by simp; omega
    go_enter Tryd.func29, Tryd.ntmps29
    go_wp2_with fail
    refine (mode_F c bs ⟨0, 0⟩ _ hc0 (by show (0 : Int) < _; omega)).mono ?_
    rw [HMo.out]
    rintro e w1 ⟨rfl, hc1, hu1⟩
    have HW1 : Hid (Below w.heap.size w w1) := Dr.Upd.below (below_alloc w _) hu1 (by omega)
    have hlt1 := hc1.lt
    have hz1 : w.heap.size ≤ w1.heap.size := HW1.out.size
    clear hu1 hc0
    go_wp2_with fail
    refine (list_F c bs σ1 _ hc1 (by omega)).mono ?_
    unfold ListPost
    rw [HLi.out]
    rintro e w2 ⟨v2, rfl, ho2, hc2, hu2, hs2, hl2, ha2, hb2⟩
    simp only at ho2 hc2 hs2 hl2 ha2 hb2
    have HW2 : Hid (Below w.heap.size w w2) := Dr.Upd.below HW1.out hu2 (by omega)
    have hz2 : w1.heap.size ≤ w2.heap.size := hu2.size
    have HS2 : Hid (∀ t ∈ l, t.2.1.size ≤ 48) := hs2
    clear hs2
    obtain ⟨g, cap2, rfl, hg1⟩ := row_some ho2 hpos
    go_wp2_with fail
    refine (pick1_F c bs l.length σ2 _ hc2 (by omega) hpos (by omega)).mono ?_
    rw [HI.out]
    rintro e w3 ⟨rfl, hc3, hu3⟩
    have ho3 := own_upd ho2 hu3 hlt1
    have hU3 := hu2.trans hu3
    clear hu3 hc2 ho2
    go_wp2_with fail
    refine (pick_F c bs 3 σ3 _ hc3 (by omega) (by omega) (by omega)).mono ?_
    rw [HSp.out]
    rintro e w4 ⟨rfl, hc4, hu4⟩
    have ho4 := own_upd ho3 hu4 hlt1
    have hU4 := hU3.trans hu4
    have hz4 : w1.heap.size ≤ w4.heap.size := hU4.size
    clear hu4 hc3 ho3 hU3 hu2
    have hne4 : w4.heap.size ≠ c := by omega
    go_wp2_with fail
    refine (pick_F c bs 5 σ4 _ (hc4.alloc _) (by omega) (by omega) (by omega)).mono ?_
    rw [HKk.out]
    rintro e w5 ⟨rfl, hc5, hu5⟩
    have hcell : w5.cell? ⟨w4.heap.size, k.toNat, none⟩ = some (.string x) := (hu5.cell (p := ⟨w4.heap.size, k.toNat, none⟩) (by simp) hne4).trans ((alloc_strs w4 reps5 k.toNat (by show k.toNat < 5; omega)).trans (by rw [HXx.out]))
    have ho5 := own_upd (ho4.alloc _) hu5 hlt1
    have hU5 := (hU4.trans (upd_alloc c w4 _)).trans hu5
    have HW5 : Hid (Below w.heap.size w w5) := Dr.Upd.below HW1.out hU5 (by omega)
    obtain ⟨y0, y1, y2⟩ := tkc_get l i hil
    have q1 := cell_at ho5 y1
    have f1 := ho5.frozenAt (i * 3 + 1)
    have ho6 := (ho5.stored (i * 3 + 1) (.string x)).1
    rw [tkc_set1 l i x hil] at ho6
    have HO6 : Hid (World.ownsRow (w5.setCell ⟨g, i * 3 + 1, none⟩ (.string x)) w1.heap.size 47 3 (.slice (some ⟨g, 0, none⟩) l.length cap2) (l.set i ((l.getD i tkD).1, x, (l.getD i tkD).2.2)).length (tkc (l.set i ((l.getD i tkD).1, x, (l.getD i tkD).2.2)))) := (by rw [List.length_set]; exact ho6 : World.ownsRow _ _ _ _ _ _ _)
    clear ho4 ho5 ho6 hU4 hu5 hc4
    go_wp2
    go_ret
    exact uPost_mk HG.out HO6.out (by omega) (HW5.out.setCell (by show w.heap.size ≤ g; omega) _) (set_sizes HS2.out (Nat.le_trans HXS.out (by decide))) (by simp; omega)
end Go.Proofs.YtcgnkcehjcednaaDoor.Df
namespace Go.Proofs.YtcgnkcehjcednaaDoor.Df
open Go.ChangeShapes Go.WideShapes Go.ChangeAt Go.RowKit
set_option linter.unusedVariables false
set_option linter.unusedSimpArgs false
set_option maxRecDepth 100000
theorem lit_adds5 (i : Nat) (h : i < 5) (h' : i < ([Value.string ⟨#[65]⟩, Value.string ⟨#[255]⟩, Value.string ⟨#[32]⟩, Value.string ⟨#[48]⟩, Value.string ⟨#[34]⟩] : List Value).length) : ([Value.string ⟨#[65]⟩, Value.string ⟨#[255]⟩, Value.string ⟨#[32]⟩, Value.string ⟨#[48]⟩, Value.string ⟨#[34]⟩] : List Value)[i]'h' = .string (adds5.getD i ByteArray.empty) := by
  have e : i = 0 ∨ i = 1 ∨ i = 2 ∨ i = 3 ∨ i = 4 := by omega
  rcases e with rfl | rfl | rfl | rfl | rfl <;> rfl
theorem own_text {W : World} {B g cap i : Nat} {l : List Tk} (h : W.ownsRow B 47 3 (.slice (some ⟨g, 0, none⟩) l.length cap) l.length (tkc l)) (hi : i < l.length) (s : ByteArray) :
    (W.setCell ⟨g, i * 3 + 1, none⟩ (.string s)).ownsRow B 47 3 (.slice (some ⟨g, 0, none⟩) l.length cap) (l.set i ((l.getD i tkD).1, s, (l.getD i tkD).2.2)).length (tkc (l.set i ((l.getD i tkD).1, s, (l.getD i tkD).2.2))) := by
  have := (h.stored (i * 3 + 1) (.string s)).1
  rw [tkc_set1 l i s hi] at this
  rw [List.length_set]; exact this
theorem upd_drew (c : Nat) (w : World) : Dr.Upd c w w.drew := Dr.Upd.of_below ((Below.refl w.heap.size w).drew)
theorem isF_drew {w : World} {c : Nat} {bs : List Int} {σ : St} (h : IsF w c bs σ) : IsF w.drew c bs σ := h.below ((Below.refl w.heap.size w).drew) h.lt
theorem own_drew {w : World} {b e s n : Nat} {v : Value} {xs : List Value} (h : w.ownsRow b e s v n xs) : w.drew.ownsRow b e s v n xs := own_bel h ((Below.refl w.heap.size w).drew)
set_option maxHeartbeats 16000000 in
theorem unlex_text (v0 : Option Addr) (bs : List Int) (cap c : Nat) (w : World) (hc : c = w.heap.size) (hl : bs.length ≤ 1048576) (hb : ∀ j, j < bs.length → ∃ g o, v0 = some ⟨g, o, none⟩ ∧ g < w.heap.size ∧ w.cell? ⟨g, o + j, none⟩ = some (.int .u8 (bs.getD j 0)) ∧ 0 ≤ bs.getD j 0 ∧ bs.getD j 0 < 256) (hm : (modeF bs ⟨0, 0⟩).1 = 1) (hz : 0 < (drawListF bs (modeF bs ⟨0, 0⟩).2).1.length) (hs : (pickF bs 3 (pick1F bs (drawListF bs (modeF bs ⟨0, 0⟩).2).1.length (drawListF bs (modeF bs ⟨0, 0⟩).2).2).2).1 = 1) :
    Calls Tryd.prog 29 #[.slice v0 bs.length cap] w fun e w' => UPost bs w e w' := by
  have hc0 : IsF (w.alloc (.cells #[.slice v0 bs.length cap, .int .i64 0, .int .i64 0, .int .i64 0] 90)) c bs ⟨0, 0⟩ := cur_newF w v0 bs cap c hc hl hb
  obtain ⟨⟨mo, σ1⟩, hmo⟩ : ∃ p, modeF bs ⟨0, 0⟩ = p := ⟨_, rfl⟩
  have HMo : Hid (modeF bs ⟨0, 0⟩ = (mo, σ1)) := hmo
  obtain ⟨⟨l, σ2⟩, hli⟩ : ∃ p, drawListF bs σ1 = p := ⟨_, rfl⟩
  have HLi : Hid (drawListF bs σ1 = (l, σ2)) := hli
  have hat := mode_at bs ⟨0, 0⟩ hc0.bd hc0.at0
  rw [hmo] at hat
  obtain ⟨t0, t1⟩ := hat
  simp only at t0 t1
  have HBD : Hid (∀ j, j < bs.length → 0 ≤ bs.getD j 0 ∧ bs.getD j 0 < 256) := hc0.bd
  have HUF : Hid (unlexF bs = unlexG bs mo l σ2) := (by unfold unlexF; rw [hmo]; simp only []; rw [hli] : unlexF bs = unlexG bs mo l σ2)
  rw [hmo] at hm hz hs
  simp only at hm hz hs
  rw [hli] at hz hs
  simp only at hz hs
  subst hm
  have hat2 := list_at bs σ1 HBD.out t0 (by omega)
  rw [hli] at hat2
  obtain ⟨u0, u1, u2⟩ := hat2
  simp only at u0 u1 u2
  have hpos : 0 < l.length := by omega
  have Bi := pick1F_bd bs l.length σ2 HBD.out (by omega) hpos
  obtain ⟨⟨iz, σ3⟩, hiz⟩ : ∃ p, pick1F bs l.length σ2 = p := ⟨_, rfl⟩
  have HI : Hid (pick1F bs l.length σ2 = (iz, σ3)) := hiz
  rw [hiz] at Bi
  obtain ⟨i0', i1', i2', i3'⟩ := Bi
  simp only at i0' i1' i2' i3'
  obtain ⟨i, rfl⟩ : ∃ m : Nat, iz = m := ⟨iz.toNat, by omega⟩
  have Bs := pickF_bd bs 3 σ3 HBD.out (by omega) (by omega)
  obtain ⟨⟨s, σ4⟩, hs4⟩ : ∃ p, pickF bs 3 σ3 = p := ⟨_, rfl⟩
  have HSp : Hid (pickF bs 3 σ3 = (s, σ4)) := hs4
  rw [hs4] at Bs
  obtain ⟨s0, s1, s2, s3⟩ := Bs
  simp only at s0 s1 s2 s3
  have hil : i < l.length := by omega
  have HG0 : Hid (unlexF bs = (if s = 0 then l.set i ((pickF bs 9 σ4).1 - 1, (l.getD i tkD).2) else if s = 1 then l.set i ((l.getD i tkD).1, (l.getD i tkD).2.1 ++ adds5.getD (pickF bs 5 σ4).1.toNat ByteArray.empty, (l.getD i tkD).2.2) else l.set i ((l.getD i tkD).1, reps5.getD (pickF bs 5 σ4).1.toNat ByteArray.empty, (l.getD i tkD).2.2))) := (by rw [HUF.out]; unfold unlexG; rw [if_pos rfl, if_neg (by omega)]; unfold spoilF; rw [hiz]; simp only []; rw [hs4]; simp : unlexF bs = _)
  clear hiz hs4
  rw [HI.out] at hs
  simp only at hs
  rw [HSp.out] at hs
  simp only at hs
  subst hs
  have Bk := pickF_bd bs 5 σ4 HBD.out (by omega) (by omega)
  obtain ⟨⟨k, σ5⟩, hk⟩ : ∃ p, pickF bs 5 σ4 = p := ⟨_, rfl⟩
  have HKk : Hid (pickF bs 5 σ4 = (k, σ5)) := hk
  obtain ⟨x, hx⟩ : ∃ x, adds5.getD k.toNat ByteArray.empty = x := ⟨_, rfl⟩
  have HXx : Hid (adds5.getD k.toNat ByteArray.empty = x) := hx
  have HXS : Hid (x.size ≤ 48) := (by rw [← hx]; exact adds5_size _ : x.size ≤ 48)
  obtain ⟨y, hy⟩ : ∃ y, (l.getD i tkD).2.1 = y := ⟨_, rfl⟩
  have HYy : Hid ((l.getD i tkD).2.1 = y) := hy
  have HG : Hid (unlexF bs = l.set i ((l.getD i tkD).1, y ++ x, (l.getD i tkD).2.2)) := (by rw [HG0.out, if_neg (by omega), if_pos rfl, hk]; simp only []; rw [hx, hy] : unlexF bs = l.set i ((l.getD i tkD).1, y ++ x, (l.getD i tkD).2.2))
  rw [hk] at Bk
  obtain ⟨k0, k1, k2, k3⟩ := Bk
  simp only at k0 k1 k2 k3
  clear hk HG0 hx hy
  subst hc
  clear hmo hli hb HUF
  generalize hC : w.heap.size = c at *
  have hlt0 : c < (w.alloc (.cells #[.slice v0 bs.length cap, .int .i64 0, .int .i64 0, .int .i64 0] 90)).heap.size := by simp; omega
  go_enter Tryd.func29, Tryd.ntmps29
  go_wp2_with fail
  refine (mode_F c bs ⟨0, 0⟩ _ hc0 (by show (0 : Int) < _; omega)).mono ?_
  rw [HMo.out]
  rintro e w1 ⟨rfl, hc1, hu1⟩
  have HW1 : Hid (Below w.heap.size w w1) := Dr.Upd.below (below_alloc w _) hu1 (by omega)
  have hlt1 := hc1.lt
  have hz1 : w.heap.size ≤ w1.heap.size := HW1.out.size
  clear hu1 hc0
  go_wp2_with fail
  refine (list_F c bs σ1 _ hc1 (by omega)).mono ?_
  unfold ListPost
  rw [HLi.out]
  rintro e w2 ⟨v2, rfl, ho2, hc2, hu2, hs2, hl2, ha2, hb2⟩
  simp only at ho2 hc2 hs2 hl2 ha2 hb2
  have HW2 : Hid (Below w.heap.size w w2) := Dr.Upd.below HW1.out hu2 (by omega)
  have hz2 : w1.heap.size ≤ w2.heap.size := hu2.size
  have HS2 : Hid (∀ t ∈ l, t.2.1.size ≤ 48) := hs2
  clear hs2
  obtain ⟨g, cap2, rfl, hg1⟩ := row_some ho2 hpos
  go_wp2_with fail
  refine (pick1_F c bs l.length σ2 _ hc2 (by omega) hpos (by omega)).mono ?_
  rw [HI.out]
  rintro e w3 ⟨rfl, hc3, hu3⟩
  have ho3 := own_upd ho2 hu3 hlt1
  have hU3 := hu2.trans hu3
  clear hu3 hc2 ho2
  go_wp2_with fail
  refine (pick_F c bs 3 σ3 _ hc3 (by omega) (by omega) (by omega)).mono ?_
  rw [HSp.out]
  rintro e w4 ⟨rfl, hc4, hu4⟩
  have ho4 := own_upd ho3 hu4 hlt1
  have hU4 := hU3.trans hu4
  have hz4 : w1.heap.size ≤ w4.heap.size := hU4.size
  clear hu4 hc3 ho3 hU3 hu2
  have hne4 : w4.heap.size ≠ c := by omega
  have hgw4 : g < w4.heap.size := (ho4.lt g rfl).2
  have hgc : g ≠ c := by omega
  have HSY : Hid (y.size ≤ 48) := (by rw [← HYy.out]; exact HS2.out _ (getD_mem hil) : y.size ≤ 48)
  have hxs := HXS.out
  have hys := HSY.out
  obtain ⟨yy0, yy1, yy2⟩ := tkc_get l i hil
  rw [HYy.out] at yy1
  have q1 := cell_at ho4 yy1
  have f1 := ho4.frozenAt (i * 3 + 1)
  have HO4 : Hid (World.ownsRow w4 w1.heap.size 47 3 (.slice (some ⟨g, 0, none⟩) l.length cap2) l.length (tkc l)) := ho4
  clear ho4 yy0 yy1 yy2
  go_upto_region 10 with fail
  go_region_with (first | (go_at_call 68; refine (pick_F c bs 5 σ4 (w4.alloc (.cells (adds5.map Value.string).toArray 9)).drew (isF_drew (hc4.alloc _)) (by omega) (by omega) (by omega)).mono ?_; rw [HKk.out]; rintro e w5 ⟨rfl, hc5, hu5⟩; have hu5' : Dr.Upd c w4 w5 := ((upd_alloc c w4 _).trans (upd_drew c _)).trans hu5; have hcell : w5.cell? ⟨w4.heap.size, k.toNat, none⟩ = some (.string x) := (hu5.cell (p := ⟨w4.heap.size, k.toNat, none⟩) (by simp) hne4).trans ((alloc_strs w4 adds5 k.toNat (by show k.toNat < 5; omega)).trans (by rw [HXx.out])); have ho5 := own_upd HO4.out hu5' hlt1; have q5 := (hu5'.cell (p := ⟨g, i * 3 + 1, none⟩) hgw4 hgc).trans q1; have f5 := ho5.frozenAt (i * 3 + 1); have hg5 : g < w5.heap.size := (ho5.lt g rfl).2) | (go_at_call 68; refine (pick_F c bs 5 σ4 w4.drew (isF_drew hc4) (by omega) (by omega) (by omega)).mono ?_; rw [HKk.out]; rintro e w5 ⟨rfl, hc5, hu5⟩; have hu5' : Dr.Upd c w4 w5 := (upd_drew c _).trans hu5; have hx2 : ∀ h', ([Value.string ⟨#[65]⟩, Value.string ⟨#[255]⟩, Value.string ⟨#[32]⟩, Value.string ⟨#[48]⟩, Value.string ⟨#[34]⟩] : List Value)[k.toNat]'h' = .string x := (fun h' => (lit_adds5 k.toNat (by omega) h').trans (by rw [HXx.out])); have ho5 := own_upd HO4.out hu5' hlt1; have q5 := (hu5'.cell (p := ⟨g, i * 3 + 1, none⟩) hgw4 hgc).trans q1; have f5 := ho5.frozenAt (i * 3 + 1); have hg5 : g < w5.heap.size := (ho5.lt g rfl).2))
  all_goals
    have hU5 := hU4.trans hu5'
    have HW5 : Hid (Below w.heap.size w w5) := Dr.Upd.below HW1.out hU5 (by omega)
    have HO5 : Hid (World.ownsRow w5 w1.heap.size 47 3 (.slice (some ⟨g, 0, none⟩) l.length cap2) l.length (tkc l)) := ho5
    clear ho5 hU5 hU4 hu5 hu5' hc5
    go_wp2
    go_ret
    first
      | exact uPost_mk HG.out (own_text HO5.out hil _) (by omega) (HW5.out.setCell (by show w.heap.size ≤ g; omega) _) (set_sizes HS2.out (by show (y ++ x).size ≤ 300; rw [ByteArray.size_append]; omega)) (by simp; omega)
      | exact uPost_mk HG.out ((own_text HO5.out hil _).alloc _) (by omega) ((HW5.out.setCell (by show w.heap.size ≤ g; omega) _).alloc (by have := (HW5.out.setCell (p := ⟨g, i * 3 + 1, none⟩) (by show w.heap.size ≤ g; omega) (.string (y ++ x))).size; exact this) _) (set_sizes HS2.out (by show (y ++ x).size ≤ 300; rw [ByteArray.size_append]; omega)) (by simp; omega)
      | exact uPost_mk HG.out (own_text (HO5.out.alloc _) hil _) (by omega) ((HW5.out.alloc HW5.out.size _).setCell (by show w.heap.size ≤ g; omega) _) (set_sizes HS2.out (by show (y ++ x).size ≤ 300; rw [ByteArray.size_append]; omega)) (by simp; omega)
end Go.Proofs.YtcgnkcehjcednaaDoor.Df
namespace Go.Proofs.YtcgnkcehjcednaaDoor.Df
open Go.ChangeShapes Go.WideShapes Go.ChangeAt Go.RowKit
set_option linter.unusedVariables false
set_option linter.unusedSimpArgs false
set_option maxRecDepth 100000
theorem app_sizes {l : List Tk} {x : Tk} (h : ∀ t ∈ l, t.2.1.size ≤ 300) (hx : x.2.1.size ≤ 300) : ∀ t ∈ l ++ [x], t.2.1.size ≤ 300 := fun t ht => by
  rcases List.mem_append.1 ht with h1 | h1
  · exact h t h1
  · simp at h1; subst h1; exact hx
/-- Tokens are put behind. -/
structure GR (bs : List Int) (c : Nat) (A : Int) (w1 wr : World) (v : Value) (acc : List Tk) (υ : St) : Prop where
  own : wr.ownsRow w1.heap.size 47 3 v acc.length (tkc acc)
  isf : IsF wr c bs υ
  upd : Dr.Upd c w1 wr
  sz : ∀ t ∈ acc, t.2.1.size ≤ 300
  at0 : 0 ≤ υ.at'
  atA : υ.at' ≤ A
theorem fillF_len (bs : List Int) (hb : ∀ j, j < bs.length → 0 ≤ bs.getD j 0 ∧ bs.getD j 0 < 256) : ∀ (f : Nat) (l : List Tk) (σ : St), 0 ≤ σ.at' → l.length ≤ 2001 → (fillF bs f l σ).length ≤ 2001
  | 0, l, σ, _, h => h
  | f + 1, l, σ, h0, h => by
    have h1 := pickF_bd bs 2 σ hb h0 (by omega)
    unfold fillF
    split
    · exact fillF_len bs hb f _ _ (by omega) (by simp; omega)
    · exact h
set_option maxHeartbeats 16000000 in
theorem unlex_fill (v0 : Option Addr) (bs : List Int) (cap c : Nat) (w : World) (hc : c = w.heap.size) (hl : bs.length ≤ 1048576) (hb : ∀ j, j < bs.length → ∃ g o, v0 = some ⟨g, o, none⟩ ∧ g < w.heap.size ∧ w.cell? ⟨g, o + j, none⟩ = some (.int .u8 (bs.getD j 0)) ∧ 0 ≤ bs.getD j 0 ∧ bs.getD j 0 < 256) (hm : (modeF bs ⟨0, 0⟩).1 = 2) (hs : (pickF bs 2 (drawListF bs (modeF bs ⟨0, 0⟩).2).2).1 = 0) :
    Calls Tryd.prog 29 #[.slice v0 bs.length cap] w fun e w' => UPost bs w e w' := by
  obtain ⟨i0, hi, hy0, hy1, hy2⟩ := info_parts info47'
  have hc0 : IsF (w.alloc (.cells #[.slice v0 bs.length cap, .int .i64 0, .int .i64 0, .int .i64 0] 90)) c bs ⟨0, 0⟩ := cur_newF w v0 bs cap c hc hl hb
  obtain ⟨⟨mo, σ1⟩, hmo⟩ : ∃ p, modeF bs ⟨0, 0⟩ = p := ⟨_, rfl⟩
  have HMo : Hid (modeF bs ⟨0, 0⟩ = (mo, σ1)) := hmo
  obtain ⟨⟨l, σ2⟩, hli⟩ : ∃ p, drawListF bs σ1 = p := ⟨_, rfl⟩
  have HLi : Hid (drawListF bs σ1 = (l, σ2)) := hli
  have hat := mode_at bs ⟨0, 0⟩ hc0.bd hc0.at0
  rw [hmo] at hat
  obtain ⟨t0, t1⟩ := hat
  simp only at t0 t1
  have HBD : Hid (∀ j, j < bs.length → 0 ≤ bs.getD j 0 ∧ bs.getD j 0 < 256) := hc0.bd
  have HUF : Hid (unlexF bs = unlexG bs mo l σ2) := (by unfold unlexF; rw [hmo]; simp only []; rw [hli] : unlexF bs = unlexG bs mo l σ2)
  rw [hmo] at hm hs
  simp only at hm hs
  rw [hli] at hs
  simp only at hs
  subst hm
  have hat2 := list_at bs σ1 HBD.out t0 (by omega)
  rw [hli] at hat2
  obtain ⟨u0, u1, u2⟩ := hat2
  simp only at u0 u1 u2
  have Bs := pickF_bd bs 2 σ2 HBD.out (by omega) (by omega)
  obtain ⟨⟨s, σ3⟩, hs3⟩ : ∃ p, pickF bs 2 σ2 = p := ⟨_, rfl⟩
  have HSp : Hid (pickF bs 2 σ2 = (s, σ3)) := hs3
  rw [hs3] at Bs hs
  obtain ⟨s0, s1, s2, s3⟩ := Bs
  simp only at s0 s1 s2 s3 hs
  subst hs
  obtain ⟨L, hL⟩ : ∃ L, unlexF bs = L := ⟨_, rfl⟩
  have HG : Hid (unlexF bs = L) := hL
  have HF0 : Hid (fillF bs 2002 l σ3 = L) := (by rw [← hL, HUF.out]; unfold unlexG; rw [if_neg (by decide), if_pos rfl, hs3]; simp : fillF bs 2002 l σ3 = L)
  have HLL : Hid (L.length ≤ 2001) := (by rw [← HF0.out]; exact fillF_len bs HBD.out 2002 l σ3 (by omega) (by omega) : L.length ≤ 2001)
  clear hs3 hL
  subst hc
  clear hmo hli hb HUF
  generalize hC : w.heap.size = c at *
  have hlt0 : c < (w.alloc (.cells #[.slice v0 bs.length cap, .int .i64 0, .int .i64 0, .int .i64 0] 90)).heap.size := by simp; omega
  go_enter Tryd.func29, Tryd.ntmps29
  go_wp2_with fail
  refine (mode_F c bs ⟨0, 0⟩ _ hc0 (by show (0 : Int) < _; omega)).mono ?_
  rw [HMo.out]
  rintro e w1 ⟨rfl, hc1, hu1⟩
  have HW1 : Hid (Below w.heap.size w w1) := Dr.Upd.below (below_alloc w _) hu1 (by omega)
  have hlt1 := hc1.lt
  have hz1 : w.heap.size ≤ w1.heap.size := HW1.out.size
  clear hu1 hc0
  go_wp2_with fail
  refine (list_F c bs σ1 _ hc1 (by omega)).mono ?_
  unfold ListPost
  rw [HLi.out]
  rintro e w2 ⟨v2, rfl, ho2, hc2, hu2, hs2, hl2, ha2, hb2⟩
  simp only at ho2 hc2 hs2 hl2 ha2 hb2
  have HW2 : Hid (Below w.heap.size w w2) := Dr.Upd.below HW1.out hu2 (by omega)
  have hz2 : w1.heap.size ≤ w2.heap.size := hu2.size
  have HS2 : Hid (∀ t ∈ l, t.2.1.size ≤ 48) := hs2
  clear hs2
  obtain ⟨a2, cap2, rfl⟩ := row_slice ho2
  go_wp2_with fail
  refine (pick_F c bs 2 σ2 _ hc2 (by omega) (by omega) (by omega)).mono ?_
  rw [HSp.out]
  rintro e w3 ⟨rfl, hc3, hu3⟩
  have HR0 : Hid (GR bs c (2100 + 2 * (l.length : Int)) w1 w3 (.slice a2 l.length cap2) l σ3) := ⟨own_upd ho2 hu3 hlt1, hc3, hu2.trans hu3, fun t ht => Nat.le_trans (HS2.out t ht) (by decide), by omega, by omega⟩
  clear hu3 hc2 ho2 hu2 hc3
  go_wp2
  go_loopw [5] (fun v wr => ∃ (f : Nat) (acc : List Tk) (υ : St) (a : Option Addr) (cp : Nat), v = .slice a acc.length cp ∧ Hid (GR bs c (2100 + 2 * (acc.length : Int)) w1 wr (.slice a acc.length cp) acc υ) ∧ Hid (fillF bs f acc υ = L) ∧ 2002 ≤ f + acc.length ∧ acc.length ≤ 2001) (fun v _ => match v with | .slice _ n _ => 2002 - n | _ => 0)
  case atStart => exact ⟨2002, l, σ3, a2, cap2, rfl, HR0, HF0, by omega, by omega⟩
  case round =>
    obtain ⟨f, acc, υ, a, cp, rfl, HRI, HF, hf1, hf2⟩ := hrel
    have hv0 := HRI.out.at0
    have hvA := HRI.out.atA
    have hzr : w1.heap.size ≤ wr.heap.size := HRI.out.upd.size
    have Bq := pickF_bd bs 2 υ HBD.out hv0 (by omega)
    obtain ⟨⟨q, υ'⟩, hq⟩ : ∃ p, pickF bs 2 υ = p := ⟨_, rfl⟩
    have HQ : Hid (pickF bs 2 υ = (q, υ')) := hq
    rw [hq] at Bq
    obtain ⟨q0, q1, q2, q3⟩ := Bq
    simp only at q0 q1 q2 q3
    obtain ⟨f', rfl⟩ : ∃ f', f = f' + 1 := ⟨f - 1, by omega⟩
    have HF2 : Hid ((if (acc.length : Int) < 2000 + q then fillF bs f' (acc ++ [(6, ⟨#[59]⟩, 0)]) υ' else acc) = L) := (by have := HF.out; unfold fillF at this; rw [hq] at this; exact this : (if (acc.length : Int) < 2000 + q then fillF bs f' (acc ++ [(6, ⟨#[59]⟩, 0)]) υ' else acc) = L)
    clear hq HF
    go_wp2_with fail
    refine (pick_F c bs 2 υ wr HRI.out.isf (by omega) (by omega) (by omega)).mono ?_
    rw [HQ.out]
    rintro e w4 ⟨rfl, hc4, hu4⟩
    have ho4 := own_upd HRI.out.own hu4 hlt1
    have HC4 : Hid (IsF w4 c bs υ') := hc4
    have HU4 : Hid (Dr.Upd c w1 w4) := HRI.out.upd.trans hu4
    have hz4 : w1.heap.size ≤ w4.heap.size := HU4.out.size
    clear hc4 hu4
    by_cases hlt2 : (acc.length : Int) < 2000 + q
    · have HF3 : Hid (fillF bs f' (acc ++ [(6, ⟨#[59]⟩, 0)]) υ' = L) := (by have := HF2.out; rw [if_pos hlt2] at this; exact this : fillF bs f' (acc ++ [(6, ⟨#[59]⟩, 0)]) υ' = L)
      clear HF2
      go_wp2_with (at_builtin; refine wpList_append_own _ rfl (.tmp 76) (.tmp 78) 33 rfl w1.heap.size 47 i0 (.agg #[.int .i64 0, .string ⟨#[]⟩, .int .i64 0]) 3 32 Tryd.underlying33 hi hy0 hy1 hy2 rfl (by decide) _ _ _ rfl (ho4.alloc _) ⟨w4.heap.size, 0, none⟩ 1 1 [.int .i64 6, .string ⟨#[59]⟩, .int .i64 0] rfl rfl (three_at _ _ (by simp) _ _ _ _) (by intro u hu; simp at hu; rcases hu with rfl | rfl | rfl <;> rfl) (by unfold maxLen; omega) (by omega) (by simp; omega) ?_; intro v' w6 hown' hgrow _)
      obtain ⟨g1, g2⟩ := grown_all (m := 0) (ys := []) (v' := .bool true) ho4 HC4.out hlt1 HU4.out _ hgrow
      obtain ⟨a', cp', rfl⟩ := row_slice hown'
      have HR6 : Hid (GR bs c (2100 + 2 * ((acc ++ ([(6, ⟨#[59]⟩, 0)] : List Tk)).length : Int)) w1 w6 (.slice a' (acc ++ ([(6, ⟨#[59]⟩, 0)] : List Tk)).length cp') (acc ++ ([(6, ⟨#[59]⟩, 0)] : List Tk)) υ') := ⟨by rw [tkc_snoc, List.length_append]; exact hown', g1, g2, app_sizes HRI.out.sz (by decide), by omega, by rw [List.length_append]; simp only [List.length_cons, List.length_nil]; omega⟩
      clear hown' hgrow g1 g2
      go_roundw
      case rel => exact ⟨f', acc ++ [(6, ⟨#[59]⟩, 0)], υ', a', cp', by simp, HR6, HF3, by simp; omega, by simp; omega⟩
      case measure => simp; omega
    · have HF3 : Hid (acc = L) := (by have := HF2.out; rw [if_neg hlt2] at this; exact this : acc = L)
      have HSZ : Hid (∀ t ∈ acc, t.2.1.size ≤ 300) := HRI.out.sz
      have HW4 : Hid (Below w.heap.size w w4) := Dr.Upd.below HW1.out HU4.out (by omega)
      clear HF2
      go_wp2
      go_ret
      have hE := HF3.out
      exact uPost_mk HG.out (by rw [← hE]; exact ho4) (by omega) HW4.out (by rw [← hE]; exact HSZ.out) (by have := HLL.out; omega)
theorem fortyF_len (bs : List Int) : ∀ (n : Nat) (l : List Tk) (σ : St), (fortyF bs n l σ).length = l.length + n
  | 0, l, σ => rfl
  | n + 1, l, σ => by
    have := fortyF_len bs n (l ++ [(5, exes (190 + (pickF bs 20 σ).1).toNat, 0)]) (pickF bs 20 σ).2
    show (fortyF bs n _ _).length = _
    rw [this]; simp; omega
set_option maxHeartbeats 16000000 in
theorem unlex_forty (v0 : Option Addr) (bs : List Int) (cap c : Nat) (w : World) (hc : c = w.heap.size) (hl : bs.length ≤ 1048576) (hb : ∀ j, j < bs.length → ∃ g o, v0 = some ⟨g, o, none⟩ ∧ g < w.heap.size ∧ w.cell? ⟨g, o + j, none⟩ = some (.int .u8 (bs.getD j 0)) ∧ 0 ≤ bs.getD j 0 ∧ bs.getD j 0 < 256) (hm : (modeF bs ⟨0, 0⟩).1 = 2) (hs : (pickF bs 2 (drawListF bs (modeF bs ⟨0, 0⟩).2).2).1 ≠ 0) :
    Calls Tryd.prog 29 #[.slice v0 bs.length cap] w fun e w' => UPost bs w e w' := by
  obtain ⟨i0, hi, hy0, hy1, hy2⟩ := info_parts info47'
  have hc0 : IsF (w.alloc (.cells #[.slice v0 bs.length cap, .int .i64 0, .int .i64 0, .int .i64 0] 90)) c bs ⟨0, 0⟩ := cur_newF w v0 bs cap c hc hl hb
  obtain ⟨⟨mo, σ1⟩, hmo⟩ : ∃ p, modeF bs ⟨0, 0⟩ = p := ⟨_, rfl⟩
  have HMo : Hid (modeF bs ⟨0, 0⟩ = (mo, σ1)) := hmo
  obtain ⟨⟨l, σ2⟩, hli⟩ : ∃ p, drawListF bs σ1 = p := ⟨_, rfl⟩
  have HLi : Hid (drawListF bs σ1 = (l, σ2)) := hli
  have hat := mode_at bs ⟨0, 0⟩ hc0.bd hc0.at0
  rw [hmo] at hat
  obtain ⟨t0, t1⟩ := hat
  simp only at t0 t1
  have HBD : Hid (∀ j, j < bs.length → 0 ≤ bs.getD j 0 ∧ bs.getD j 0 < 256) := hc0.bd
  have HUF : Hid (unlexF bs = unlexG bs mo l σ2) := (by unfold unlexF; rw [hmo]; simp only []; rw [hli] : unlexF bs = unlexG bs mo l σ2)
  rw [hmo] at hm hs
  simp only at hm hs
  rw [hli] at hs
  simp only at hs
  subst hm
  have hat2 := list_at bs σ1 HBD.out t0 (by omega)
  rw [hli] at hat2
  obtain ⟨u0, u1, u2⟩ := hat2
  simp only at u0 u1 u2
  have Bs := pickF_bd bs 2 σ2 HBD.out (by omega) (by omega)
  obtain ⟨⟨s, σ3⟩, hs3⟩ : ∃ p, pickF bs 2 σ2 = p := ⟨_, rfl⟩
  have HSp : Hid (pickF bs 2 σ2 = (s, σ3)) := hs3
  rw [hs3] at Bs hs
  obtain ⟨s0, s1, s2, s3⟩ := Bs
  simp only at s0 s1 s2 s3 hs
  have xs0 : (s == 0) = false := by simpa using hs
  obtain ⟨L, hL⟩ : ∃ L, unlexF bs = L := ⟨_, rfl⟩
  have HG : Hid (unlexF bs = L) := hL
  have HF0 : Hid (fortyF bs 40 l σ3 = L) := (by rw [← hL, HUF.out]; unfold unlexG; rw [if_neg (by decide), if_pos rfl, hs3]; simp only []; rw [if_neg hs] : fortyF bs 40 l σ3 = L)
  have HLL : Hid (L.length ≤ 100) := (by rw [← HF0.out, fortyF_len]; omega : L.length ≤ 100)
  clear hs3 hL hs
  subst hc
  clear hmo hli hb HUF
  generalize hC : w.heap.size = c at *
  have hlt0 : c < (w.alloc (.cells #[.slice v0 bs.length cap, .int .i64 0, .int .i64 0, .int .i64 0] 90)).heap.size := by simp; omega
  go_enter Tryd.func29, Tryd.ntmps29
  go_wp2_with fail
  refine (mode_F c bs ⟨0, 0⟩ _ hc0 (by show (0 : Int) < _; omega)).mono ?_
  rw [HMo.out]
  rintro e w1 ⟨rfl, hc1, hu1⟩
  have HW1 : Hid (Below w.heap.size w w1) := Dr.Upd.below (below_alloc w _) hu1 (by omega)
  have hlt1 := hc1.lt
  have hz1 : w.heap.size ≤ w1.heap.size := HW1.out.size
  clear hu1 hc0
  go_wp2_with fail
  refine (list_F c bs σ1 _ hc1 (by omega)).mono ?_
  unfold ListPost
  rw [HLi.out]
  rintro e w2 ⟨v2, rfl, ho2, hc2, hu2, hs2, hl2, ha2, hb2⟩
  simp only at ho2 hc2 hs2 hl2 ha2 hb2
  have HW2 : Hid (Below w.heap.size w w2) := Dr.Upd.below HW1.out hu2 (by omega)
  have hz2 : w1.heap.size ≤ w2.heap.size := hu2.size
  have HS2 : Hid (∀ t ∈ l, t.2.1.size ≤ 48) := hs2
  clear hs2
  obtain ⟨a2, cap2, rfl⟩ := row_slice ho2
  go_wp2_with fail
  refine (pick_F c bs 2 σ2 _ hc2 (by omega) (by omega) (by omega)).mono ?_
  rw [HSp.out]
  rintro e w3 ⟨rfl, hc3, hu3⟩
  have HR0 : Hid (GR bs c (2100 + 2 * (l.length : Int)) w1 w3 (.slice a2 l.length cap2) l σ3) := ⟨own_upd ho2 hu3 hlt1, hc3, hu2.trans hu3, fun t ht => Nat.le_trans (HS2.out t ht) (by decide), by omega, by omega⟩
  clear hu3 hc2 ho2 hu2 hc3
  go_wp2
  go_loopw [5, 7] (fun v vi wr => ∃ (i : Nat) (acc : List Tk) (υ : St) (a : Option Addr) (cp : Nat), v = .slice a acc.length cp ∧ vi = .int .i64 i ∧ i ≤ 40 ∧ Hid (GR bs c (2100 + 2 * (acc.length : Int)) w1 wr (.slice a acc.length cp) acc υ) ∧ Hid (fortyF bs (40 - i) acc υ = L) ∧ acc.length ≤ 60 + i) (fun _ vi _ => 40 - (intOf vi).toNat)
  case atStart => exact ⟨0, l, σ3, a2, cap2, rfl, rfl, by omega, HR0, HF0, by omega⟩
  case round =>
    obtain ⟨i, acc, υ, a, cp, rfl, rfl, hi40, HRI, HF, hf2⟩ := hrel
    have hv0 := HRI.out.at0
    have hvA := HRI.out.atA
    have hzr : w1.heap.size ≤ wr.heap.size := HRI.out.upd.size
    by_cases hlt2 : i < 40
    · have hlt2' : (i : Int) < 40 := by omega
      have Bq := pickF_bd bs 20 υ HBD.out hv0 (by omega)
      obtain ⟨⟨q, υ'⟩, hq⟩ : ∃ p, pickF bs 20 υ = p := ⟨_, rfl⟩
      have HQ : Hid (pickF bs 20 υ = (q, υ')) := hq
      rw [hq] at Bq
      obtain ⟨q0, q1, q2, q3⟩ := Bq
      simp only at q0 q1 q2 q3
      obtain ⟨m, hm⟩ : ∃ m : Nat, 190 + q = m := ⟨(190 + q).toNat, by omega⟩
      have hmt : (190 + q).toNat = m := by omega
      have HF2 : Hid (fortyF bs (40 - (i + 1)) (acc ++ [(5, exes m, 0)]) υ' = L) := (by have := HF.out; rw [show 40 - i = (40 - (i + 1)) + 1 by omega] at this; unfold fortyF at this; rw [hq] at this; simp only [] at this; rw [hmt] at this; exact this : fortyF bs (40 - (i + 1)) (acc ++ [(5, exes m, 0)]) υ' = L)
      have hxsz : (exes m).size ≤ 300 := by rw [exes_size]; omega
      have HXS : Hid ((exes m).size ≤ 300) := hxsz
      clear hq HF hmt hxsz
      go_wp2_with fail
      refine (pick_F c bs 20 υ wr HRI.out.isf (by omega) (by omega) (by omega)).mono ?_
      rw [HQ.out]
      rintro e w4 ⟨rfl, hc4, hu4⟩
      have HO4 : Hid (World.ownsRow w4 w1.heap.size 47 3 (.slice a acc.length cp) acc.length (tkc acc)) := own_upd HRI.out.own hu4 hlt1
      have HC4 : Hid (IsF w4 c bs υ') := hc4
      have HU4 : Hid (Dr.Upd c w1 w4) := HRI.out.upd.trans hu4
      have hz4 : w1.heap.size ≤ w4.heap.size := HU4.out.size
      clear hc4 hu4
      go_wp2_with fail
      refine (times_F m _ (by omega) (by omega)).mono ?_
      rintro e w5 ⟨rfl, hb5⟩
      have ho4 := own_bel HO4.out hb5
      have HC5 : Hid (IsF w5 c bs υ') := HC4.out.below hb5 HC4.out.lt
      have HU5 : Hid (Dr.Upd c w1 w5) := HU4.out.thenB hb5 hz4
      have hz5 : w4.heap.size ≤ w5.heap.size := hb5.size
      clear hb5
      obtain ⟨X, hX⟩ : ∃ X, exes m = X := ⟨_, rfl⟩
      rw [hX] at HF2 HXS ⊢
      clear hX
      go_wp2_with (at_builtin; refine wpList_append_own _ rfl (.tmp 84) (.tmp 90) 33 rfl w1.heap.size 47 i0 (.agg #[.int .i64 0, .string ⟨#[]⟩, .int .i64 0]) 3 32 Tryd.underlying33 hi hy0 hy1 hy2 rfl (by decide) _ _ _ rfl (ho4.alloc _) ⟨w5.heap.size, 0, none⟩ 1 1 [.int .i64 5, .string X, .int .i64 0] rfl rfl (three_at _ _ (by simp) _ _ _ _) (by intro u hu; simp at hu; rcases hu with rfl | rfl | rfl <;> rfl) (by unfold maxLen; omega) (by omega) (by simp; omega) ?_; intro v' w6 hown' hgrow _)
      obtain ⟨g1, g2⟩ := grown_all (m := 0) (ys := []) (v' := .bool true) ho4 HC5.out hlt1 HU5.out _ hgrow
      obtain ⟨a', cp', rfl⟩ := row_slice hown'
      have HR6 : Hid (GR bs c (2100 + 2 * ((acc ++ [(5, X, 0)]).length : Int)) w1 w6 (.slice a' (acc ++ [(5, X, 0)]).length cp') (acc ++ [(5, X, 0)]) υ') := ⟨by rw [tkc_snoc, List.length_append]; exact hown', g1, g2, app_sizes HRI.out.sz HXS.out, by omega, by rw [List.length_append]; simp only [List.length_cons, List.length_nil]; omega⟩
      clear hown' hgrow g1 g2
      go_roundw
      case rel => exact ⟨i + 1, acc ++ [(5, X, 0)], υ', a', cp', by simp, by go_num, by omega, HR6, HF2, by simp; omega⟩
      case measure => simp [intOf]; omega
    · have hlt2' : ¬ (i : Int) < 40 := by omega
      obtain rfl : i = 40 := by omega
      have HF3 : Hid (acc = L) := (by have := HF.out; exact this : acc = L)
      have HO : Hid (World.ownsRow wr w1.heap.size 47 3 (.slice a acc.length cp) acc.length (tkc acc)) := HRI.out.own
      have HSZ : Hid (∀ t ∈ acc, t.2.1.size ≤ 300) := HRI.out.sz
      have HW4 : Hid (Below w.heap.size w wr) := Dr.Upd.below HW1.out HRI.out.upd (by omega)
      clear HF
      go_wp2
      go_ret
      have hE := HF3.out
      exact uPost_mk HG.out (by rw [← hE]; exact HO.out) (by omega) HW4.out (by rw [← hE]; exact HSZ.out) (by have := HLL.out; omega)
end Go.Proofs.YtcgnkcehjcednaaDoor.Df
